/-
 What isBlock, isState, line, pair, the closures, slices.IndexFunc, first, free answer: contracts. No condition but the bounds that each theorem names.
 What slices.IndexFunc, first, free answer: contracts. No condition but the bounds that each theorem names.
 Where a cache lies and what it holds; where, use, victim: contracts. Condition: the table of bounds lies in its variable as the program's text has it; the bounds that each theorem names.
 What use and victim make of a set; what a store of a line makes of a cache: contracts. No condition but the bounds that each theorem names.
 What Find, Drop, Use, Turn, Write answer, and what the cache is behind them: contracts. Condition: the table of bounds lies in its variable as the program's text has it; the bounds that each theorem names.
 What Write answers, and what the cache is behind it: contracts. Condition: the table of bounds lies in its variable as the program's text has it; the bounds that each theorem names.
 What Put, Goes answer, and what the cache is behind them: contracts. Condition: the table of bounds lies in its variable as the program's text has it; the bounds that each theorem names.
 What Goes answers: contracts. Condition: the table of bounds lies in its variable as the program's text has it; the bounds that each theorem names.
 What New answers, and the cache that it makes: contracts. Condition: the table of bounds lies in its variable as the program's text has it; the bounds that each theorem names.
 What Copy answers, and the cache that it makes: contracts. No condition but the bounds that each theorem names.
-/
import Derived.Test.YtcoimipgilkmbaaGreatDoorTl
import Derived.Test.YtcoimipgilkmbaaGreatDoorCax
import Derived.Shelf.Abstract
import Derived.WalkSpells
import Derived.Deep.AppendSrc
namespace Go.Proofs.YtcoimipgilkmbaaGreatDoor.kk
set_option linter.unusedVariables false
set_option linter.unusedSimpArgs false
set_option maxRecDepth 1000000
set_option maxHeartbeats 16000000
open Go Go.ChangeShapes Go.WideShapes Go.ChangeAt Go.RowKit
open Go.Proofs.YtcoimipgilkmbaaGreatDoor.tt (Cfg grown_refl grown_alloc zd)
theorem isBlock_any (i:Int) (w:World):Calls Tryz.prog 125 #[.int .i64 i] w fun e w'=>e = .returned (.bool (decide (0 ≤ i∧i < 256)))∧w=w':=by
 by_cases h0:0 ≤ i
 ·by_cases h1:i < 256
  ·rw [show decide (0 ≤ i∧i < 256)=true by simp;omega]
   go_enter Tryz.func125,Tryz.ntmps125
   go_wp2
   go_ret
   exact ⟨rfl,rfl⟩
  ·rw [show decide (0 ≤ i∧i < 256)=false by simp;omega]
   go_enter Tryz.func125,Tryz.ntmps125
   go_wp2
   go_ret
   exact ⟨rfl,rfl⟩
 ·rw [show decide (0 ≤ i∧i < 256)=false by simp;omega]
  go_enter Tryz.func125,Tryz.ntmps125
  go_wp2
  go_ret
  exact ⟨rfl,rfl⟩
theorem isState_any (i:Int) (w:World):Calls Tryz.prog 166 #[.int .u8 i] w fun e w'=>e = .returned (.bool (decide (1 ≤ i∧i ≤ 3)))∧w=w':=by
 by_cases h0:1 ≤ i
 ·by_cases h1:i ≤ 3
  ·rw [show decide (1 ≤ i∧i ≤ 3)=true by simp;omega]
   go_enter Tryz.func166,Tryz.ntmps166
   go_wp2
   go_ret
   exact ⟨rfl,rfl⟩
  ·rw [show decide (1 ≤ i∧i ≤ 3)=false by simp;omega]
   go_enter Tryz.func166,Tryz.ntmps166
   go_wp2
   go_ret
   exact ⟨rfl,rfl⟩
 ·rw [show decide (1 ≤ i∧i ≤ 3)=false by simp;omega]
  go_enter Tryz.func166,Tryz.ntmps166
  go_wp2
  go_ret
  exact ⟨rfl,rfl⟩
def mk (b s:Int):Ln:=⟨b,s,zd,rfl⟩
def isOf (b:Int) (l:Ln):Bool:=(l.s != 0) && (l.b == b)
def isFree (l:Ln):Bool:=l.s == 0
theorem box_ln (w:World) (l:Ln):(w.alloc (.cells (la l) 50)).cell? ⟨w.heap.size,0,none⟩=some (.int .i64 l.b)∧(w.alloc (.cells (la l) 50)).cell? ⟨w.heap.size,1,none⟩=some (.int .u8 l.s):=
 ⟨(cell_of_row _ _ _ _ _ _ (heap_alloc_new _ _)).trans rfl,(cell_of_row _ _ _ _ _ _ (heap_alloc_new _ _)).trans rfl⟩
theorem free1_any (l:Ln) (w:World):Calls Tryz.prog 163 #[.agg (la l)] w fun e w'=>e = .returned (.bool (isFree l))∧w.grownBy w' none:=by
 obtain ⟨h0,h1⟩:=box_ln w l
 unfold isFree
 go_enter Tryz.func163,Tryz.ntmps163
 go_wp2
 go_ret
 exact ⟨rfl,grown_alloc (grown_refl _ _) _⟩
theorem where1_any (l:Ln) (B:Nat) (b:Int) (w:World) (hB:w.cell? ⟨B,0,none⟩=some (.int .i64 b)):Calls Tryz.prog 123 #[.agg (la l),.pointer (some ⟨B,0,none⟩)] w fun e w'=>e = .returned (.bool (isOf b l))∧w.grownBy w' none:=by
 obtain ⟨h0,h1⟩:=box_ln w l
 have hB':(w.alloc (.cells (la l) 50)).cell? ⟨B,0,none⟩=some (.int .i64 b):=(grown_alloc (grown_refl w none) _).cell hB (by simp)
 unfold isOf
 by_cases hs:l.s=0
 ·have e1:(l.s != 0)=false:=by simp [hs]
  have HG:Hid (w.grownBy (w.alloc (.cells (la l) 50)) none):=qh (grown_alloc (grown_refl _ _) _)
  rw [e1]
  clear hs
  go_enter Tryz.func123,Tryz.ntmps123
  go_wp2
  go_ret
  exact ⟨rfl,HG.out⟩
 ·have e1:(l.s != 0)=true:=by simp [hs]
  have HG:Hid (w.grownBy (w.alloc (.cells (la l) 50)) none):=qh (grown_alloc (grown_refl _ _) _)
  rw [e1]
  clear hs
  go_enter Tryz.func123,Tryz.ntmps123
  go_wp2
  go_ret
  exact ⟨rfl,HG.out⟩
def ix (p:Ln→Bool) (ls:List Ln):Int:=match ls.findIdx? p with | some i=>(i:Int) | none=>-1
theorem ix_hit (p:Ln→Bool) (ls:List Ln) (k:Nat) (l:Ln) (hl:ls[k]?=some l) (hp:p l=true) (h:∀ (j:Nat) x,j < k→ls[j]?=some x→p x=false):ix p ls=(k:Int):=by
 have:ls.findIdx? p=some k:=by
  obtain ⟨hk,rfl⟩:=List.getElem?_eq_some_iff.1 hl
  rw [List.findIdx?_eq_some_iff_getElem]
  exact ⟨hk,hp,fun j hj=>by simpa using h j _ hj (List.getElem?_eq_getElem (by omega))⟩
 rw [ix,this]
theorem ix_miss (p:Ln→Bool) (ls:List Ln) (h:∀ (j:Nat) x,ls[j]?=some x→p x=false):ix p ls=-1:=by
 have:ls.findIdx? p=none:=by
  rw [List.findIdx?_eq_none_iff]
  intro x hx
  obtain ⟨j,hj⟩:=List.getElem?_of_mem hx
  exact h j x hj
 rw [ix,this]
end Go.Proofs.YtcoimipgilkmbaaGreatDoor.kk
namespace Go.Proofs.YtcoimipgilkmbaaGreatDoor.kk
set_option linter.unusedVariables false
set_option linter.unusedSimpArgs false
set_option maxRecDepth 1000000
set_option maxHeartbeats 16000000
open Go Go.ChangeShapes Go.WideShapes Go.ChangeAt Go.RowKit Go.Shelf
open Go.Proofs.YtcoimipgilkmbaaGreatDoor.tt (grown_refl grown_trans)
theorem index_any (p:Ln→Bool) (g:Nat) (lb:Array Value) (eg:∀ args w,(callFunc g args).run Tryz.prog w = .ok (.enter g args) w) (b cap:Nat) (ls:List Ln) (w:World) (hR:RowAt w b ls) (hl:ls.length ≤ 4)
  (hp:∀ (W:World) (l:Ln),w.grownBy W none→Calls Tryz.prog g (#[.agg (la l)] ++ lb) W fun e W'=>e = .returned (.bool (p l))∧W.grownBy W' none) :
  Calls Tryz.prog 159 #[.slice (some ⟨b,0,none⟩) ls.length cap,.func (.func g) #[] lb] w fun e w'=>e = .returned (.int .i64 (ix p ls))∧w.grownBy w' none:=by
 obtain ⟨n,hn⟩:∃ n,n=ls.length:=⟨_,rfl⟩
 have HN:=qh hn
 have HP:=qh hp
 have HR:=qh hR
 rw [← hn] at hl ⊢
 clear hn hp hR
 go_enter Tryz.func159,Tryz.ntmps159
 go_wp2
 go_loopw [5,8] (fun _ i wr=>∃ k:Nat,k ≤ n∧i = .int .i64 (k:Int)∧w.grownBy wr none∧∀ (j:Nat) x,j < k→ls[j]?=some x→p x=false) (fun _ i _=>n - (intOf i).toNat)
 case atStart=>exact ⟨0,Nat.zero_le _,rfl,grown_refl _ _,fun j x hj=>by omega⟩
 case round=>
  obtain ⟨k,hk,rfl,hg,hno⟩:=hrel
  have HG:=qh hg
  have HNO:=qh hno
  by_cases hlt:k < n
  ·obtain ⟨l,hll⟩:∃ l,ls[k]?=some l:=⟨_,List.getElem?_eq_getElem (by have:=HN.out;omega)⟩
   have HLL:=qh hll
   have HA:=qh ((HR.out.grown HG.out (by simp)).at_ k l hll)
   have hcall:=HP.out wr l hg
   clear hll hg hno
   cases hq:p l
   ·rw [hq] at hcall
    have HC:=qh hcall
    have HQ:=qh hq
    clear hcall hq
    go_wp2_with (first
     | ((with_reducible refine load_ln l 14 b (k * 18) ?_ HA.out ?_);(go_num))
     | (go_at_fn g;refine HC.out.mono ?_;rintro e w' ⟨rfl,hb'⟩;have HB:=qh hb';clear hb'))
    go_roundw
    case rel=>
     refine ⟨k + 1,by omega,by go_num,grown_trans HG.out HB.out,fun j x hj hx=>?_⟩
     by_cases hjk:j=k
     ·subst hjk
      rw [HLL.out] at hx;cases hx;exact HQ.out
     ·exact HNO.out j x (by omega) hx
    case measure=>simp [intOf];omega
   ·rw [hq] at hcall
    have HC:=qh hcall
    have HQ:=qh hq
    clear hcall hq
    go_wp2_with (first
     | ((with_reducible refine load_ln l 14 b (k * 18) ?_ HA.out ?_);(go_num))
     | (go_at_fn g;refine HC.out.mono ?_;rintro e w' ⟨rfl,hb'⟩;have HB:=qh hb';clear hb'))
    go_ret
    exact ⟨by rw [ix_hit p ls k l HLL.out HQ.out HNO.out];rfl,grown_trans HG.out HB.out⟩
  ·obtain rfl:k=n:=by omega
   clear hlt hk hg hno
   go_wp2
   go_ret
   exact ⟨by rw [ix_miss p ls (fun j x hx=>HNO.out j x (by have:=(List.getElem?_eq_some_iff.1 hx).1;have:=HN.out;omega) hx)];rfl,HG.out⟩
theorem enters50:∀ args w,(callFunc 123 args).run Tryz.prog w = .ok (.enter 123 args) w:=enters_of Tryz.func123 (by kernel_rfl) rfl
theorem enters51:∀ args w,(callFunc 163 args).run Tryz.prog w = .ok (.enter 163 args) w:=enters_of Tryz.func163 (by kernel_rfl) rfl
theorem first_any (p:Ln→Bool) (g:Nat) (lb:Array Value) (eg:∀ args w,(callFunc g args).run Tryz.prog w = .ok (.enter g args) w) (gs o b cap n:Nat) (ls:List Ln) (w:World) (hn:n=ls.length) (hS:w.cell? ⟨gs,o,none⟩=some (.slice (some ⟨b,0,none⟩) n cap)) (hR:RowAt w b ls) (hl:ls.length ≤ 4)
  (hp:∀ (W:World) (l:Ln),w.grownBy W none→Calls Tryz.prog g (#[.agg (la l)] ++ lb) W fun e W'=>e = .returned (.bool (p l))∧W.grownBy W' none) :
  Calls Tryz.prog 122 #[.pointer (some ⟨gs,o,none⟩),.func (.func g) #[] lb] w fun e w'=>e = .returned (.int .i64 (ix p ls))∧w.grownBy w' none:=by
 subst hn
 have HI:=qh (index_any p g lb eg b cap ls w hR hl hp)
 generalize ls.length=n at *
 clear hp hR hl eg
 go_enter Tryz.func122,Tryz.ntmps122
 go_wp2_with (go_at_call 159;((with_reducible refine HI.out.mono ?_);rintro e w1 ⟨rfl,hg1⟩;have HG1:=qh hg1;clear hg1))
 go_ret
 exact ⟨rfl,HG1.out⟩
theorem free_any (gs o b cap n:Nat) (ls:List Ln) (w:World) (hn:n=ls.length) (hS:w.cell? ⟨gs,o,none⟩=some (.slice (some ⟨b,0,none⟩) n cap)) (hR:RowAt w b ls) (hl:ls.length ≤ 4) :
  Calls Tryz.prog 126 #[.pointer (some ⟨gs,o,none⟩)] w fun e w'=>e = .returned (.int .i64 (ix isFree ls))∧w.grownBy w' none:=by
 have HI:=qh (first_any isFree 163 #[] enters51 gs o b cap n ls w hn hS hR hl (fun W l _=>free1_any l W))
 clear hS hR hl hn
 go_enter Tryz.func126,Tryz.ntmps126
 go_wp2_with (go_at_call 122;((with_reducible refine HI.out.mono ?_);rintro e w1 ⟨rfl,hg1⟩;have HG1:=qh hg1;clear hg1))
 go_ret
 exact ⟨rfl,HG1.out⟩
end Go.Proofs.YtcoimipgilkmbaaGreatDoor.kk
namespace Go.Proofs.YtcoimipgilkmbaaGreatDoor.kk
set_option linter.unusedVariables false
set_option linter.unusedSimpArgs false
set_option maxRecDepth 1000000
set_option maxHeartbeats 16000000
open Go Go.ChangeShapes Go.WideShapes Go.ChangeAt Go.RowKit Go.Shelf
open Go.Proofs.YtcoimipgilkmbaaGreatDoor.tt (Tab Cfg lows highs CfgAt set_in set_neg ret_i64 hb_bounds grown_refl grown_drew grown_trans grown_alloc row)
structure Loc where
 b:Nat
 gs:Nat
 cap:Nat
 gr:List (Nat × Nat)
abbrev St:=List Ln × Nat
structure Cac (w:World) (K:Loc) (c:Cfg) (ss:List St):Prop where
 blk:w.heap[K.b]?=some (.cells (c.cells ++ #[.slice (some ⟨K.gs,0,none⟩) ss.length K.cap]) 151 (0,0))
 sets:∃ cur,w.heap[K.gs]?=some (.cells cur 149 (0,0))
 grl:K.gr.length=ss.length
 row:∀ (i:Nat) p q,ss[i]?=some p→K.gr[i]?=some q→w.cell? ⟨K.gs,i * 2,none⟩=some (.slice (some ⟨q.1,0,none⟩) p.1.length q.2)
 mem:∀ (i:Nat) p,ss[i]?=some p→w.cell? ⟨K.gs,i * 2 + 1,none⟩=some (.int .u8 (p.2:Int))
 rows:∀ (i:Nat) p q,ss[i]?=some p→K.gr[i]?=some q→RowAt w q.1 p.1
 inj:∀ (i j:Nat) q q',K.gr[i]?=some q→K.gr[j]?=some q'→q.1=q'.1→i=j
 len:(ss.length:Int)=c.se
 wid:∀ p ∈ ss,(p.1.length:Int)=c.wa
 mlt:∀ p ∈ ss,p.2 < 256
 may:c.may
theorem _root_.Go.Proofs.YtcoimipgilkmbaaGreatDoor.tt.Cfg.may.ways {c:Cfg} (h:c.may):c.wa=1 ∨ c.wa=2 ∨ c.wa=4:=by
 have h2:=h.1 2 (by omega)
 have hbo:=hb_bounds h2
 have hlo:lows.getD 2 0=1:=rfl
 have hhi:highs.getD 2 0=4:=rfl
 have hf:c.list.getD 2 0=c.wa:=rfl
 rw [hlo,hhi,hf] at hbo
 have h3:c.wa ≠ 3:=by
  intro e
  rw [show c.list.getD 2 0=c.wa from rfl,e] at h2
  revert h2;decide +kernel
 omega
def setOf (c:Cfg) (b:Int):Nat:=if b < 0 then 0 else (b % c.se).toNat
theorem _root_.Go.Proofs.YtcoimipgilkmbaaGreatDoor.tt.Cfg.may.set_lt {c:Cfg} (h:c.may) (b:Int):(setOf c b:Int) < c.se:=by
 have hs:=h.sets
 unfold setOf
 split
 ·simp;omega
 ·have h1:=Int.emod_lt_of_pos b (show 0 < c.se by omega)
  have h2:=Int.emod_nonneg b (show c.se ≠ 0 by omega)
  omega
theorem set_any (c:Cfg) (b:Int) (w:World) (hT:Tab w) (hm:c.may):Calls Tryz.prog 121 #[.agg c.cells,.int .i64 b] w fun e w'=>e = .returned (.int .i64 (setOf c b:Nat))∧w.grownBy w' none:=by
 by_cases h:b < 0
 ·refine (set_neg c b w hT hm h).mono ?_
  rintro e w' ⟨rfl,hg⟩
  exact ⟨by rw [setOf,if_pos h];rfl,hg⟩
 ·refine (set_in c b w hT hm (by omega)).mono ?_
  rintro e w' ⟨rfl,hg⟩
  have h2:=Int.emod_nonneg b (show c.se ≠ 0 by have:=hm.sets;omega)
  exact ⟨by rw [setOf,if_neg h];exact ret_i64 (by omega),hg⟩
section
variable {w:World} {K:Loc} {c:Cfg} {ss:List St}
theorem Cac.at (h:Cac w K c ss) (b:Int):∃ p q,ss[setOf c b]?=some p∧K.gr[setOf c b]?=some q:=by
 have h1:=h.may.set_lt b
 have h2:=h.len
 have hl:setOf c b < ss.length:=by omega
 exact ⟨_,_,List.getElem?_eq_getElem hl,List.getElem?_eq_getElem (by rw [h.grl];exact hl)⟩
theorem Cac.cfg (h:Cac w K c ss):CfgAt w K.b c:=by
 constructor <;> exact (cell_of_row _ _ _ _ _ _ h.blk).trans rfl
theorem Cac.slice (h:Cac w K c ss):w.cell? ⟨K.b,8,none⟩=some (.slice (some ⟨K.gs,0,none⟩) ss.length K.cap):=(cell_of_row _ _ _ _ _ _ h.blk).trans rfl
theorem Cac.wid4 (h:Cac w K c ss) {p:St} (hp:p ∈ ss):p.1.length ≤ 4∧1 ≤ p.1.length:=by
 have:=h.wid p hp
 have:=h.may.ways
 omega
theorem Cac.ltb (h:Cac w K c ss):K.b < w.heap.size:=lt_of h.blk
theorem Cac.ltg (h:Cac w K c ss):K.gs < w.heap.size:=by obtain ⟨_,h⟩:=h.sets;exact lt_of h
def Loc.own (K:Loc) (k:Nat):Prop:=k=K.gs ∨ ∃ q ∈ K.gr,q.1=k
def Loc.any (K:Loc) (k:Nat):Prop:=k=K.b ∨ K.own k
theorem Cac.rowOf (h:Cac w K c ss) {q:Nat × Nat} (hq:q ∈ K.gr):∃ cur,w.heap[q.1]?=some (.cells cur 50 (0,0)):=by
 obtain ⟨i,hi⟩:=List.getElem?_of_mem hq
 have hl:=(List.getElem?_eq_some_iff.1 hi).1
 obtain ⟨p,hp⟩:∃ p,ss[i]?=some p:=⟨_,List.getElem?_eq_getElem (by rw [← h.grl];exact hl)⟩
 exact (h.rows i p q hp hi).blk
theorem Cac.same (h:Cac w K c ss) {w':World} (hk:∀ k,K.any k→w'.heap[k]?=w.heap[k]?):Cac w' K c ss:=by
 have hs:=hk K.gs (.inr (.inl rfl))
 have hr:∀ q ∈ K.gr,w'.heap[q.1]?=w.heap[q.1]?:=fun q hq=>hk _ (.inr (.inr ⟨q,hq,rfl⟩))
 refine ⟨(hk K.b (.inl rfl)).trans h.blk,?_,h.grl,fun i p q hp hq=>?_,fun i p hp=>?_,fun i p q hp hq=>(h.rows i p q hp hq).same (hr q (List.mem_of_getElem? hq)),h.inj,h.len,h.wid,h.mlt,h.may⟩
 ·obtain ⟨cur,hc⟩:=h.sets
  exact ⟨cur,hs.trans hc⟩
 ·rw [World.cell?_of_block (w:=w) (w':=w') (a:=⟨K.gs,i * 2,none⟩) hs];exact h.row i p q hp hq
 ·rw [World.cell?_of_block (w:=w) (w':=w') (a:=⟨K.gs,i * 2 + 1,none⟩) hs];exact h.mem i p hp
theorem Cac.lt (h:Cac w K c ss) {k:Nat} (hk:K.any k):k < w.heap.size:=by
 rcases hk with rfl | rfl | ⟨q,hq,rfl⟩
 ·exact h.ltb
 ·exact h.ltg
 ·obtain ⟨_,hc⟩:=h.rowOf hq;exact lt_of hc
theorem Cac.grown (h:Cac w K c ss) {w':World} (hg:w.grownBy w' none):Cac w' K c ss:=h.same fun k hk=>hg.block k (h.lt hk) (by simp)
end
def wayOf (ls:List Ln) (b:Int):Int:=ix (isOf b) ls
theorem where_any (K:Loc) (c:Cfg) (ss:List St) (b:Int) (p:St) (w:World) (hC:Cac w K c ss) (hT:Tab w) (hp:ss[setOf c b]?=some p) :
  Calls Tryz.prog 86 #[.pointer (some ⟨K.b,0,none⟩),.int .i64 b] w fun e w'=>e = .returned (.tuple #[.pointer (some ⟨K.gs,setOf c b * 2,none⟩),.int .i64 (wayOf p.1 b)])∧w.grownBy w' none:=by
 obtain ⟨q,hq⟩:∃ q,K.gr[setOf c b]?=some q:=by
  obtain ⟨_,q,_,hq⟩:=hC.at b
  exact ⟨q,hq⟩
 obtain ⟨w0,hw0⟩:∃ w0,w0=w.alloc (.cells #[.int .i64 b] 3):=⟨_,rfl⟩
 have HG0:Hid (w.grownBy w0 none):=qh (hw0 ▸ grown_alloc (grown_refl _ _) _)
 have HC:=qh (hC.grown HG0.out)
 have HB:Hid (w0.cell? ⟨w.heap.size,0,none⟩=some (.int .i64 b)):=qh (by rw [hw0];exact (cell_of_row _ _ _ _ _ _ (heap_alloc_new _ _)).trans rfl)
 have HW0:Hid (w.alloc (.cells #[.int .i64 b] 3)=w0):=qh hw0.symm
 have HS:Hid (∀ w',w0.grownBy w' none→Calls Tryz.prog 121 #[.agg c.cells,.int .i64 b] w' fun e w''=>e = .returned (.int .i64 (setOf c b:Nat))∧w'.grownBy w'' none):=qh fun w' hg=>set_any c b w' (hT.grown (grown_trans HG0.out hg)) hC.may
 have hk:setOf c b < ss.length:=(List.getElem?_eq_some_iff.1 hp).1
 have HP:=qh hp
 have HQ:=qh hq
 have HMEM:Hid (p ∈ ss):=qh (List.mem_of_getElem? hp)
 have HX:Hid (∀ w1,w0.grownBy w1 none→Calls Tryz.prog 122 #[.pointer (some ⟨K.gs,setOf c b * 2,none⟩),.func (.func 123) #[] #[.pointer (some ⟨w.heap.size,0,none⟩)]] w1 fun e w'=>e = .returned (.int .i64 (wayOf p.1 b))∧w1.grownBy w' none):=qh fun w1 hg=>by
  have hC1:=HC.out.grown hg
  exact first_any (isOf b) 123 _ enters50 K.gs (setOf c b * 2) q.1 q.2 _ p.1 w1 rfl (hC1.row _ p q HP.out HQ.out) (hC1.rows _ p q HP.out HQ.out) (hC1.wid4 HMEM.out).1
   (fun W l hW=>where1_any l w.heap.size b W ((grown_trans hg hW).cell HB.out (by simp)))
 have HL:Hid (∀ w',w0.grownBy w' none→(w'.cell? ⟨K.b,8,none⟩=some (.slice (some ⟨K.gs,0,none⟩) ss.length K.cap)∧w'.cell? ⟨w.heap.size,0,none⟩=some (.int .i64 b)∧w'.cell? ⟨K.b,0,none⟩=some (.int .i64 c.co)∧w'.cell? ⟨K.b,1,none⟩=some (.int .i64 c.se)∧w'.cell? ⟨K.b,2,none⟩=some (.int .i64 c.wa)∧w'.cell? ⟨K.b,3,none⟩=some (.int .i64 c.bl)∧w'.cell? ⟨K.b,4,none⟩=some (.int .i64 c.lo)∧w'.cell? ⟨K.b,5,none⟩=some (.int .i64 c.ba)∧w'.cell? ⟨K.b,6,none⟩=some (.int .i64 c.ne)∧w'.cell? ⟨K.b,7,none⟩=some (.int .i64 c.tr))):=qh fun w' hg=>⟨(HC.out.grown hg).slice,hg.cell HB.out (by simp),((HC.out.grown hg).cfg).limbs⟩
 obtain ⟨n,hn⟩:∃ n,n=ss.length:=⟨_,rfl⟩
 rw [← hn] at hk HL
 obtain ⟨s,hs⟩:∃ s,s=setOf c b:=⟨_,rfl⟩
 rw [← hs] at hk HS HX ⊢
 have HD:Hid (w0.grownBy w0.drew none):=qh (grown_drew (grown_refl _ _))
 clear hC hT hp hq hw0 hn hs
 unfold Cfg.cells at HS
 go_enter Tryz.func86,Tryz.ntmps86
 go_wp2_with fail
 rw [HW0.out]
 go_region_held3 (fun w'=>w'.cell? ⟨K.b,8,none⟩=some (.slice (some ⟨K.gs,0,none⟩) n K.cap)∧w'.cell? ⟨w.heap.size,0,none⟩=some (.int .i64 b)∧w'.cell? ⟨K.b,0,none⟩=some (.int .i64 c.co)∧w'.cell? ⟨K.b,1,none⟩=some (.int .i64 c.se)∧w'.cell? ⟨K.b,2,none⟩=some (.int .i64 c.wa)∧w'.cell? ⟨K.b,3,none⟩=some (.int .i64 c.bl)∧w'.cell? ⟨K.b,4,none⟩=some (.int .i64 c.lo)∧w'.cell? ⟨K.b,5,none⟩=some (.int .i64 c.ba)∧w'.cell? ⟨K.b,6,none⟩=some (.int .i64 c.ne)∧w'.cell? ⟨K.b,7,none⟩=some (.int .i64 c.tr)) (first | exact HL.out _ HD.out | exact HL.out _ (grown_trans HD.out (by assumption)))
  (first | (go_at_call 121;((with_reducible refine (HS.out _ HD.out).mono ?_);rintro e w5 ⟨rfl,hg5⟩;have HG5:=qh hg5)))
 have HG6:Hid (w0.grownBy w5 none):=qh (grown_trans HD.out HG5.out)
 go_wp2_with (go_at_call 122;((with_reducible refine (HX.out _ HG6.out).mono ?_);rintro e w6 ⟨rfl,hg6⟩;have HG7:=qh hg6;clear hg6))
 go_ret2
 exact ⟨rfl,grown_trans HG0.out (grown_trans HG6.out HG7.out)⟩
end Go.Proofs.YtcoimipgilkmbaaGreatDoor.kk
namespace Go.Proofs.YtcoimipgilkmbaaGreatDoor.kk
set_option linter.unusedVariables false
set_option linter.unusedSimpArgs false
set_option maxRecDepth 1000000
set_option maxHeartbeats 16000000
open Go Go.ChangeShapes Go.WideShapes Go.ChangeAt Go.RowKit Go.Shelf
open Go.Proofs.YtcoimipgilkmbaaGreatDoor.tt (hb Cfg row)
structure Kept (O:Nat→Prop) (w w':World):Prop where
 os:w'.os=w.os
 tape:w'.tape=w.tape
 output:w'.output=w.output
 size:w.heap.size ≤ w'.heap.size
 block:∀ k,k < w.heap.size→¬ O k→w'.heap[k]?=w.heap[k]?
theorem Kept.of {O:Nat→Prop} {w w':World} (h:w.grownBy w' none):Kept O w w':=⟨h.os,h.tape,h.output,h.size,fun k hk _=>h.block k hk (by simp)⟩
theorem Kept.one {O:Nat→Prop} {w w':World} {b:Nat} (h:w.grownBy w' (some b)) (ho:O b):Kept O w w':=⟨h.os,h.tape,h.output,h.size,fun k hk hn=>h.block k hk (fun e=>hn (by cases e;exact ho))⟩
theorem Kept.trans {O:Nat→Prop} {a b c:World} (h:Kept O a b) (k:Kept O b c):Kept O a c:=
 ⟨k.os.trans h.os,k.tape.trans h.tape,k.output.trans h.output,Nat.le_trans h.size k.size,fun i hi hn=>(k.block i (Nat.lt_of_lt_of_le hi h.size) hn).trans (h.block i hi hn)⟩
theorem Kept.below {O:Nat→Prop} {w0 w w':World} (h:Kept O w w') (hg:w0.grownBy w none) (ho:∀ k,O k→w0.heap.size ≤ k):w0.grownBy w' none:=
 ⟨h.os.trans hg.os,h.tape.trans hg.tape,h.output.trans hg.output,Nat.le_trans hg.size h.size,fun k hk _=>(h.block k (Nat.lt_of_lt_of_le hk hg.size) (fun e=>by have:=ho k e;omega)).trans (hg.block k hk (by simp))⟩
section
variable {w:World} {K:Loc} {c:Cfg} {ss:List St}
theorem Cac.ne1 (h:Cac w K c ss) {q:Nat × Nat} (hq:q ∈ K.gr):q.1 ≠ K.b∧q.1 ≠ K.gs:=by
 obtain ⟨_,hc⟩:=h.rowOf hq
 obtain ⟨_,hs⟩:=h.sets
 exact ⟨tyne hc h.blk (by decide),tyne hc hs (by decide)⟩
theorem Cac.ne2 (h:Cac w K c ss):K.gs ≠ K.b:=by
 obtain ⟨_,hs⟩:=h.sets
 exact tyne hs h.blk (by decide)
theorem Cac.setRow (h:Cac w K c ss) {i:Nat} {p:St} {q:Nat × Nat} (hp:ss[i]?=some p) (hq:K.gr[i]?=some q) {w':World} (hg:w.grownBy w' (some q.1)) {ls':List Ln} (hl:ls'.length=p.1.length) (hr:RowAt w' q.1 ls') :
  Cac w' K c (ss.set i (ls',p.2)):=by
 have hqm:=List.mem_of_getElem? hq
 obtain ⟨n1,n2⟩:=h.ne1 hqm
 have hi:i < ss.length:=(List.getElem?_eq_some_iff.1 hp).1
 have hb:=hg.block K.b h.ltb (fun e=>n1 (Option.some.inj e).symm)
 have hs:=hg.block K.gs h.ltg (fun e=>n2 (Option.some.inj e).symm)
 have hget:∀ j p',(ss.set i (ls',p.2))[j]?=some p'→(j=i∧p'=(ls',p.2)) ∨ (j ≠ i∧ss[j]?=some p'):=fun j p' hj=>by
  by_cases hji:j=i
  ·subst hji
   rw [List.getElem?_set_self hi] at hj
   exact .inl ⟨rfl,by cases hj;rfl⟩
  ·rw [List.getElem?_set_ne (fun e=>hji e.symm)] at hj
   exact .inr ⟨hji,hj⟩
 refine ⟨by rw [List.length_set];exact hb.trans h.blk,?_,by rw [List.length_set];exact h.grl,fun j p' q' hj hq'=>?_,fun j p' hj=>?_,fun j p' q' hj hq'=>?_,h.inj,by rw [List.length_set];exact h.len,fun p' hp'=>?_,fun p' hp'=>?_,h.may⟩
 ·obtain ⟨cur,hc⟩:=h.sets
  exact ⟨cur,hs.trans hc⟩
 ·rw [World.cell?_of_block (w:=w) (w':=w') (a:=⟨K.gs,j * 2,none⟩) hs]
  rcases hget j p' hj with ⟨rfl,rfl⟩ | ⟨_,hj'⟩
  ·rw [h.row _ p q' hp hq'];simp [hl]
  ·exact h.row j p' q' hj' hq'
 ·rw [World.cell?_of_block (w:=w) (w':=w') (a:=⟨K.gs,j * 2 + 1,none⟩) hs]
  rcases hget j p' hj with ⟨rfl,rfl⟩ | ⟨_,hj'⟩
  ·exact h.mem _ p hp
  ·exact h.mem j p' hj'
 ·rcases hget j p' hj with ⟨rfl,rfl⟩ | ⟨hne,hj'⟩
  ·rw [hq] at hq';cases hq';exact hr
  ·exact (h.rows j p' q' hj' hq').grown hg (fun e=>hne (h.inj j i q' q hq' hq (Option.some.inj e)))
 ·rcases List.mem_or_eq_of_mem_set hp' with hp' | rfl
  ·exact h.wid p' hp'
  ·rw [hl];exact h.wid p (List.mem_of_getElem? hp)
 ·rcases List.mem_or_eq_of_mem_set hp' with hp' | rfl
  ·exact h.mlt p' hp'
  ·exact h.mlt p (List.mem_of_getElem? hp)
theorem Cac.setMem (h:Cac w K c ss) {i:Nat} {p:St} (hp:ss[i]?=some p) (m:Nat) (hm:m < 256) :
  Cac (w.setCell ⟨K.gs,i * 2 + 1,none⟩ (.int .u8 (m:Int))) K c (ss.set i (p.1,m)):=by
 have hi:i < ss.length:=(List.getElem?_eq_some_iff.1 hp).1
 have hg:=grown_setCell w K.gs (i * 2 + 1) (.int .u8 (m:Int))
 have hb:=hg.block K.b h.ltb (fun e=>h.ne2 (Option.some.inj e).symm)
 have hget:∀ j p',(ss.set i (p.1,m))[j]?=some p'→(j=i∧p'=(p.1,m)) ∨ (j ≠ i∧ss[j]?=some p'):=fun j p' hj=>by
  by_cases hji:j=i
  ·subst hji
   rw [List.getElem?_set_self hi] at hj
   exact .inl ⟨rfl,by cases hj;rfl⟩
  ·rw [List.getElem?_set_ne (fun e=>hji e.symm)] at hj
   exact .inr ⟨hji,hj⟩
 have hother:∀ o u,o ≠ i * 2 + 1→w.cell? ⟨K.gs,o,none⟩=some u→(w.setCell ⟨K.gs,i * 2 + 1,none⟩ (.int .u8 (m:Int))).cell? ⟨K.gs,o,none⟩=some u:=fun o u ho hu=>by
  have:=World.rangeAt_setCells_apart (w:=w) (b':=K.gs) (o':=o) (cs:=[u]) (fun j v hv=>by
   match j,hv with
   | 0,hv=>simp at hv;subst hv;exact hu
   | j + 1,hv=>simp at hv) K.gs (i * 2 + 1) [.int .u8 (m:Int)] (.inr (by simp;omega))
  exact this 0 u rfl
 refine ⟨by rw [List.length_set];exact hb.trans h.blk,?_,by rw [List.length_set];exact h.grl,fun j p' q' hj hq'=>?_,fun j p' hj=>?_,fun j p' q' hj hq'=>?_,h.inj,by rw [List.length_set];exact h.len,fun p' hp'=>?_,fun p' hp'=>?_,h.may⟩
 ·exact blk_setCells [.int .u8 (m:Int)] (i * 2 + 1) w h.sets
 ·rcases hget j p' hj with ⟨rfl,rfl⟩ | ⟨_,hj'⟩
  ·exact hother _ _ (by omega) (h.row _ p q' hp hq')
  ·exact hother _ _ (by omega) (h.row j p' q' hj' hq')
 ·rcases hget j p' hj with ⟨rfl,rfl⟩ | ⟨hne,hj'⟩
  ·have h0:=h.mem _ p hp
   exact World.cell?_setCells_in K.gs [.int .u8 (m:Int)] (j * 2 + 1) w (fun i hi=>by simp at hi;subst hi;rw [Nat.add_zero,h0];rfl) 0 (by simp)
  ·exact hother _ _ (by omega) (h.mem j p' hj')
 ·have hr:∀ p'',ss[j]?=some p''→RowAt (w.setCell ⟨K.gs,i * 2 + 1,none⟩ (.int .u8 (m:Int))) q'.1 p''.1:=fun p'' hj'=>(h.rows j p'' q' hj' hq').grown hg (fun e=>(h.ne1 (List.mem_of_getElem? hq')).2 (Option.some.inj e))
  rcases hget j p' hj with ⟨rfl,rfl⟩ | ⟨hne,hj'⟩
  ·exact hr p hp
  ·exact hr p' hj'
 ·rcases List.mem_or_eq_of_mem_set hp' with hp' | rfl
  ·exact h.wid p' hp'
  ·exact h.wid p (List.mem_of_getElem? hp)
 ·rcases List.mem_or_eq_of_mem_set hp' with hp' | rfl
  ·exact h.mlt p' hp'
  ·exact hm
theorem Cac.good (h:Cac w K c ss) {p:St} (hp:p ∈ ss):good (p.1.length:Int):=by
 have h1:=h.wid p hp
 have h2:=h.may.ways
 unfold kk.good
 rw [h1];exact h2
theorem Cac.fr (h:Cac w K c ss) (o:Nat):w.frozen? ⟨K.gs,o,none⟩=false:=by
 obtain ⟨_,hs⟩:=h.sets
 exact frozen_of_row _ _ _ _ _ hs
end
theorem victim_any (K:Loc) (c:Cfg) (ss:List St) (i:Nat) (p:St) (w:World) (hC:Cac w K c ss) (hp:ss[i]?=some p) :
  Calls Tryz.prog 127 #[.pointer (some ⟨K.gs,i * 2,none⟩)] w fun e w'=>e = .returned (.int .i64 (vc p.2 p.1.length:Nat))∧∃ n,w'=w.drewN n:=by
 obtain ⟨q,hq⟩:∃ q,K.gr[i]?=some q:=⟨_,List.getElem?_eq_getElem (by rw [hC.grl];exact (List.getElem?_eq_some_iff.1 hp).1)⟩
 have hmem:=List.mem_of_getElem? hp
 have HV:Hid (∀ w,_):=qh (fun w=>victim_in p.2 p.1.length w (hC.mlt p hmem) (hC.good hmem))
 have c1:=hC.row i p q hp hq
 have c2:=hC.mem i p hp
 generalize p.1.length=n at *
 clear hC hp hq hmem
 go_enter Tryz.func127,Tryz.ntmps127
 go_wp2_with fail
 go_quiet ((go_at_call 164;exact Calls.quiet_of_same ((HV.out _).mono fun e w' h=>⟨h.1,h.2.symm⟩)))
 go_wp2_with fail
 go_ret
 exact ⟨rfl,_,rfl⟩
theorem use_any (K:Loc) (c:Cfg) (ss:List St) (i:Nat) (p:St) (way:Nat) (w:World) (hC:Cac w K c ss) (hp:ss[i]?=some p) (hw:way < p.1.length) :
  Calls Tryz.prog 87 #[.pointer (some ⟨K.gs,i * 2,none⟩),.int .i64 (way:Int)] w fun e w'=>(∃ v,e = .returned v)∧Cac w' K c (ss.set i (p.1,us p.2 p.1.length way))∧Kept K.own w w':=by
 obtain ⟨q,hq⟩:∃ q,K.gr[i]?=some q:=⟨_,List.getElem?_eq_getElem (by rw [hC.grl];exact (List.getElem?_eq_some_iff.1 hp).1)⟩
 have hmem:=List.mem_of_getElem? hp
 have HU:Hid (∀ w,_):=qh (fun w=>use_in p.2 p.1.length way w (hC.mlt p hmem) (hC.good hmem) hw)
 have c1:=hC.row i p q hp hq
 have c2:=hC.mem i p hp
 have f2:=hC.fr (i * 2 + 1)
 have HM:=qh (us_lt p.2 p.1.length way (hC.mlt p hmem) hw (hC.wid4 hmem).1)
 have HC:=qh hC
 have HP:=qh hp
 have HE:Hid (∀ k,Cac (((w.drewN k).setCell ⟨K.gs,i * 2 + 1,none⟩ (.int .u8 (us p.2 p.1.length way:Nat)))) K c (ss.set i (p.1,us p.2 p.1.length way))∧Kept K.own w (((w.drewN k).setCell ⟨K.gs,i * 2 + 1,none⟩ (.int .u8 (us p.2 p.1.length way:Nat))))):=qh fun k=>
  ⟨(hC.grown (grown_drewN w k none)).setMem hp _ HM.out,(Kept.of (grown_drewN w k none)).trans (Kept.one (grown_setCell _ _ _ _) (.inl rfl))⟩
 generalize us p.2 p.1.length way=m' at *
 generalize p.1.length=n at *
 clear hC hp hq hmem hw
 go_enter Tryz.func87,Tryz.ntmps87
 go_region_with (first | (go_at_call 124;((refine (HU.out _).mono ?_);rintro e w5 ⟨rfl,n5,rfl⟩)))
 all_goals
  go_end0
  exact ⟨⟨_,rfl⟩,HE.out _⟩
end Go.Proofs.YtcoimipgilkmbaaGreatDoor.kk
namespace Go.Proofs.YtcoimipgilkmbaaGreatDoor.kk
set_option linter.unusedVariables false
set_option linter.unusedSimpArgs false
set_option maxRecDepth 1000000
set_option maxHeartbeats 16000000
open Go Go.ChangeShapes Go.WideShapes Go.ChangeAt Go.RowKit Go.Shelf
open Go.Proofs.YtcoimipgilkmbaaGreatDoor.tt (Tab Cfg grown_refl grown_trans grown_alloc row)
section
variable {w:World} {ops:Array Oper} {rest:List Oper} {a:Act} {Q:Exit→Act→World→Prop} {dst:Option Tmp} {ty:TypeId} {pos:String} {after:Array Edge}
theorem store_any (l l':Ln) (x y:Tmp) (g:Nat) (hx:a.eval (.tmp x) = .pointer (some ⟨g,0,none⟩)) (hy:a.eval (.tmp y) = .agg (la l)) (hg:w.heap[g]?=some (.cells (la l') 50 (0,0)))
  (h:wpList Tryz.prog ops Q rest (a.put dst undef) (w.setRow g (la l))):wpList Tryz.prog ops Q (⟨dst,.store 50 (.tmp x) (.tmp y),ty,pos,after,none⟩ :: rest) a w:=
 wpList_store_row rfl 50 (.tmp x) (.tmp y) rfl g (la l) hx hy 50 _ hg (info36a l) (by rw [la_size,la_size]) (la_one l) h
end
theorem grown_setRow {w w1:World} (h:w.grownBy w1 none) (g:Nat) (hg:w.heap.size ≤ g) (c:Array Value):w.grownBy (w1.setRow g c) none:=
 ⟨h.os,h.tape,h.output,by have:=h.size;simp;omega,fun k hk hn=>(setRow_other _ _ _ _ (by omega)).trans (h.block k hk hn)⟩
theorem ret_ln {fn:Func} (hres:fn.results=#[.cell 4 50,.tmp 5]) (w:World) (l:Ln) (v:Value) (B:Nat) (tmps:Array Value) (Q:Ending→World→Prop) (h4:tmps.getD 4 undef = .pointer (some ⟨B,0,none⟩)) (h5:tmps.getD 5 undef=v)
  (hr:w.rangeAt B 0 (ln l)) (hQ:Q (.returned (.tuple #[.agg (la l),v])) w):bodyPost Tryz.prog fn Q .ret { tmps:=tmps,defers:=[] } w:=by
 refine bodyPost_ret (v:= .tuple #[.agg (la l),v]) ?_ rfl hQ
 rw [results_cell_tmp hres,h4,h5]
 have:=run_loadVar_mid (P:=Tryz.prog) w B 0 50 (ln l) _ hr Tryz.underlying50 rfl (info36' l)
 simp [asAddr,Result.andThen,this,la]
theorem way_none {ls:List Ln} {b:Int} (h:ls.findIdx? (isOf b)=none):wayOf ls b=-1:=by rw [wayOf,ix,h]
theorem way_some {ls:List Ln} {b:Int} {i:Nat} (h:ls.findIdx? (isOf b)=some i):wayOf ls b=(i:Int):=by rw [wayOf,ix,h]
theorem idx_lt {p:Ln→Bool} {ls:List Ln} {i:Nat} (h:ls.findIdx? p=some i):i < ls.length:=(List.findIdx?_eq_some_iff_getElem.1 h).1
structure Seen (w:World) (K:Loc) (s:Nat) (p:St) (q:Nat × Nat):Prop where
 sl:w.cell? ⟨K.gs,s * 2,none⟩=some (.slice (some ⟨q.1,0,none⟩) p.1.length q.2)
 row:RowAt w q.1 p.1
theorem Cac.seen {w:World} {K:Loc} {c:Cfg} {ss:List St} (h:Cac w K c ss) {s:Nat} {p:St} (hp:ss[s]?=some p):∃ q,K.gr[s]?=some q∧Seen w K s p q:=by
 obtain ⟨q,hq⟩:∃ q,K.gr[s]?=some q:=⟨_,List.getElem?_eq_getElem (by rw [h.grl];exact (List.getElem?_eq_some_iff.1 hp).1)⟩
 exact ⟨q,hq,h.row s p q hp hq,h.rows s p q hp hq⟩
section
variable (K:Loc) (c:Cfg) (ss:List St) (b:Int) (p:St) (w:World)
theorem find_nil:Calls Tryz.prog 58 #[.pointer none,.int .i64 b] w fun e w'=>e = .returned (.tuple #[.agg (la zl),.bool false])∧w.grownBy w' none:=by
 have HN:∀ w:World,Calls Tryz.prog 86 #[.pointer none,.int .i64 b] w fun e w'=>e = .returned (.tuple #[.pointer none,.int .i64 (-1)])∧w.grownBy w' none:=fun w=>by
  go_enter Tryz.func86,Tryz.ntmps86
  go_wp2
  go_ret2
  exact ⟨rfl,grown_alloc (grown_refl _ _) _⟩
 have HN:=qh HN
 have HB:Hid (∀ w1,(w.alloc (.cells (la zl) 50)).grownBy w1 none→w1.heap[w.heap.size]?=some (.cells (la zl) 50 (0,0))∧w.grownBy w1 none):=qh fun w1 hg=>⟨(hg.block _ (by simp) (by simp)).trans (heap_alloc_new _ _),grown_trans (grown_alloc (grown_refl _ _) _) hg⟩
 have HZ:Hid (la zl=_):=qh zl_la
 rw [HZ.out] at HB
 go_enter Tryz.func58,Tryz.ntmps58
 go_wp2_with (first
  | (go_at_call 86;((with_reducible refine (HN.out _).mono ?_);rintro e w1 ⟨rfl,hg1⟩;have HG1:=qh (HB.out _ hg1);clear hg1))
  | ((with_reducible refine store_any zl zl 4 16 w.heap.size ?_ ?_ ?_ ?_);(rfl);(rfl);(exact HG1.out.1)))
 exact ret_ln rfl _ zl _ w.heap.size _ _ (by rfl) (by rfl) (range_of (setRow_heap _ _ _ _ _ _ HG1.out.1)) (by exact ⟨rfl,grown_setRow HG1.out.2 _ (Nat.le_refl _) _⟩)
theorem where_nil:Calls Tryz.prog 86 #[.pointer none,.int .i64 b] w fun e w'=>e = .returned (.tuple #[.pointer none,.int .i64 (-1)])∧w.grownBy w' none:=by
 go_enter Tryz.func86,Tryz.ntmps86
 go_wp2
 go_ret2
 exact ⟨rfl,grown_alloc (grown_refl _ _) _⟩
theorem drop_nil:Calls Tryz.prog 91 #[.pointer none,.int .i64 b] w fun e w'=>e = .returned (.bool false)∧w.grownBy w' none:=by
 have HN:=qh (where_nil b)
 go_enter Tryz.func91,Tryz.ntmps91
 go_wp2_with (go_at_call 86;((with_reducible refine (HN.out _).mono ?_);rintro e w1 ⟨rfl,hg1⟩;have HG1:=qh hg1;clear hg1))
 go_ret
 exact ⟨rfl,HG1.out⟩
theorem write_nil (k x:Int):Calls Tryz.prog 49 #[.pointer none,.int .i64 b,.int .i64 k,.int .u32 x] w fun e w'=>e = .returned (.int .i64 1)∧w.grownBy w' none:=by
 go_enter Tryz.func49,Tryz.ntmps49
 go_wp2
 go_ret
 exact ⟨rfl,grown_refl _ _⟩
variable (hC:Cac w K c ss) (hT:Tab w) (hp:ss[setOf c b]?=some p)
include hC hT hp
theorem find_none (hn:p.1.findIdx? (isOf b)=none):Calls Tryz.prog 58 #[.pointer (some ⟨K.b,0,none⟩),.int .i64 b] w fun e w'=>e = .returned (.tuple #[.agg (la zl),.bool false])∧w.grownBy w' none:=by
 have hg0:w.grownBy (w.alloc (.cells (la zl) 50)) none:=grown_alloc (grown_refl _ _) _
 have HN:=qh (where_any K c ss b p (w.alloc (.cells (la zl) 50)) (hC.grown hg0) (hT.grown hg0) hp)
 rw [way_none hn] at HN
 have HB:Hid (∀ w1,(w.alloc (.cells (la zl) 50)).grownBy w1 none→w1.heap[w.heap.size]?=some (.cells (la zl) 50 (0,0))∧w.grownBy w1 none):=qh fun w1 hg=>⟨(hg.block _ (by simp) (by simp)).trans (heap_alloc_new _ _),grown_trans (grown_alloc (grown_refl _ _) _) hg⟩
 have HZ:Hid (la zl=_):=qh zl_la
 rw [HZ.out] at HB HN
 clear hg0 hC hT hp hn
 go_enter Tryz.func58,Tryz.ntmps58
 go_wp2_with (first
  | (go_at_call 86;((with_reducible refine HN.out.mono ?_);rintro e w1 ⟨rfl,hg1⟩;have HG1:=qh (HB.out _ hg1);clear hg1))
  | ((with_reducible refine store_any zl zl 4 16 w.heap.size ?_ ?_ ?_ ?_);(rfl);(rfl);(exact HG1.out.1)))
 exact ret_ln rfl _ zl _ w.heap.size _ _ (by rfl) (by rfl) (range_of (setRow_heap _ _ _ _ _ _ HG1.out.1)) (by exact ⟨rfl,grown_setRow HG1.out.2 _ (Nat.le_refl _) _⟩)
theorem find_some (i:Nat) (l:Ln) (hn:p.1.findIdx? (isOf b)=some i) (hl:p.1[i]?=some l):Calls Tryz.prog 58 #[.pointer (some ⟨K.b,0,none⟩),.int .i64 b] w fun e w'=>e = .returned (.tuple #[.agg (la l),.bool true])∧w.grownBy w' none:=by
 have hg0:w.grownBy (w.alloc (.cells (la zl) 50)) none:=grown_alloc (grown_refl _ _) _
 have HN:=qh (where_any K c ss b p (w.alloc (.cells (la zl) 50)) (hC.grown hg0) (hT.grown hg0) hp)
 rw [way_some hn] at HN
 obtain ⟨q,hq,hS⟩:=hC.seen hp
 have hsne:some K.gs ≠ none:=by simp
 have HB:Hid (∀ w1,(w.alloc (.cells (la zl) 50)).grownBy w1 none→w1.heap[w.heap.size]?=some (.cells (la zl) 50 (0,0))∧w.grownBy w1 none∧w1.cell? ⟨K.gs,setOf c b * 2,none⟩=some (.slice (some ⟨q.1,0,none⟩) p.1.length q.2)∧w1.rangeAt q.1 (i * 18) (ln l)):=qh fun w1 hg=>
  have hg':=grown_trans (grown_alloc (grown_refl _ _) _) hg
  ⟨(hg.block _ (by simp) (by simp)).trans (heap_alloc_new _ _),hg',hg'.cell hS.sl (by simp),(hS.row.grown hg' (by simp)).at_ i l hl⟩
 have HZ:Hid (la zl=_):=qh zl_la
 have hi:=idx_lt hn
 rw [HZ.out] at HB HN
 generalize p.1.length=n at *
 generalize setOf c b=s at *
 clear hg0 hC hT hp hn hS hl hq hsne
 go_enter Tryz.func58,Tryz.ntmps58
 go_wp2_with (first
  | (go_at_call 86;((with_reducible refine HN.out.mono ?_);rintro e w1 ⟨rfl,hg1⟩;have HG1:=qh (HB.out _ hg1);clear hg1;have c1:=HG1.out.2.2.1))
  | ((with_reducible refine load_ln l 22 q.1 (i * 18) ?_ HG1.out.2.2.2 ?_);(go_num))
  | ((with_reducible refine store_any l zl 4 23 w.heap.size ?_ ?_ ?_ ?_);(rfl);(rfl);(exact HG1.out.1)))
 exact ret_ln rfl _ l _ w.heap.size _ _ (by rfl) (by rfl) (range_of (setRow_heap _ _ _ _ _ _ HG1.out.1)) (by exact ⟨rfl,grown_setRow HG1.out.2.1 _ (Nat.le_refl _) _⟩)
theorem drop_none (hn:p.1.findIdx? (isOf b)=none):Calls Tryz.prog 91 #[.pointer (some ⟨K.b,0,none⟩),.int .i64 b] w fun e w'=>e = .returned (.bool false)∧w.grownBy w' none:=by
 have HN:=qh (where_any K c ss b p w hC hT hp)
 rw [way_none hn] at HN
 clear hC hT hp hn
 go_enter Tryz.func91,Tryz.ntmps91
 go_wp2_with (go_at_call 86;((with_reducible refine HN.out.mono ?_);rintro e w1 ⟨rfl,hg1⟩;have HG1:=qh hg1;clear hg1))
 go_ret
 exact ⟨rfl,HG1.out⟩
theorem drop_some (i:Nat) (hn:p.1.findIdx? (isOf b)=some i):Calls Tryz.prog 91 #[.pointer (some ⟨K.b,0,none⟩),.int .i64 b] w fun e w'=>e = .returned (.bool true)∧Cac w' K c (ss.set (setOf c b) (p.1.set i zl,p.2))∧Kept K.own w w':=by
 have HN:=qh (where_any K c ss b p w hC hT hp)
 rw [way_some hn] at HN
 obtain ⟨q,hq,hS⟩:=hC.seen hp
 have hi:=idx_lt hn
 have HB:Hid (∀ w1,w.grownBy w1 none→w1.cell? ⟨K.gs,setOf c b * 2,none⟩=some (.slice (some ⟨q.1,0,none⟩) p.1.length q.2)∧w1.there q.1 (i * 18) 18∧Cac (w1.setCells q.1 (i * 18) (ln zl)) K c (ss.set (setOf c b) (p.1.set i zl,p.2))∧Kept K.own w (w1.setCells q.1 (i * 18) (ln zl))):=qh fun w1 hg=>
  have hr:=hS.row.grown hg (by simp)
  ⟨hg.cell hS.sl (by simp),hr.there hi,(hC.grown hg).setRow hp hq (grown_setCells _ _ _ _) (by simp) (hr.store i hi zl),(Kept.of hg).trans (Kept.one (grown_setCells _ _ _ _) (.inr ⟨q,List.mem_of_getElem? hq,rfl⟩))⟩
 have HZ:Hid (la zl=_):=qh zl_la
 generalize ss.set (setOf c b) (p.1.set i zl,p.2)=ss' at *
 generalize p.1.length=n at *
 generalize setOf c b=s at *
 clear hC hT hp hn hS hq
 go_enter Tryz.func91,Tryz.ntmps91
 go_wp2_with (first
  | (go_at_call 86;((with_reducible refine HN.out.mono ?_);rintro e w1 ⟨rfl,hg1⟩;have HG1:=qh (HB.out _ hg1);clear hg1;have c1:=HG1.out.1))
  | ((with_reducible refine store_ln zl 21 20 q.1 (i * 18) ?_ ?_ HG1.out.2.1 ?_);(go_num);(rfl)))
 go_ret
 exact ⟨rfl,HG1.out.2.2⟩
theorem uses_none (hn:p.1.findIdx? (isOf b)=none):Calls Tryz.prog 55 #[.pointer (some ⟨K.b,0,none⟩),.int .i64 b] w fun e w'=>e = .returned (.bool false)∧w.grownBy w' none:=by
 have HN:=qh (where_any K c ss b p w hC hT hp)
 rw [way_none hn] at HN
 clear hC hT hp hn
 go_enter Tryz.func55,Tryz.ntmps55
 go_wp2_with (go_at_call 86;((with_reducible refine HN.out.mono ?_);rintro e w1 ⟨rfl,hg1⟩;have HG1:=qh hg1;clear hg1))
 go_ret
 exact ⟨rfl,HG1.out⟩
theorem uses_some (i:Nat) (hn:p.1.findIdx? (isOf b)=some i):Calls Tryz.prog 55 #[.pointer (some ⟨K.b,0,none⟩),.int .i64 b] w fun e w'=>e = .returned (.bool true)∧Cac w' K c (ss.set (setOf c b) (p.1,us p.2 p.1.length i))∧Kept K.own w w':=by
 have HN:=qh (where_any K c ss b p w hC hT hp)
 rw [way_some hn] at HN
 have HU:Hid (∀ w1,w.grownBy w1 none→_):=qh fun w1 hg=>use_any K c ss (setOf c b) p i w1 (hC.grown hg) hp (idx_lt hn)
 generalize ss.set (setOf c b) (p.1,us p.2 p.1.length i)=ss' at *
 generalize setOf c b=s at *
 clear hC hT hp hn
 go_enter Tryz.func55,Tryz.ntmps55
 go_wp2_with (first
  | (go_at_call 86;((with_reducible refine HN.out.mono ?_);rintro e w1 ⟨rfl,hg1⟩;have HG1:=qh hg1;clear hg1))
  | (go_at_call 87;((with_reducible refine (HU.out _ HG1.out).mono ?_);rintro e w2 ⟨⟨v,rfl⟩,hc2,hk2⟩;have HC2:=qh hc2;have HK2:=qh hk2;clear hc2 hk2)))
 go_ret
 exact ⟨rfl,HC2.out,(Kept.of HG1.out).trans HK2.out⟩
theorem turn_none (s:Int) (hn:p.1.findIdx? (isOf b)=none):Calls Tryz.prog 143 #[.pointer (some ⟨K.b,0,none⟩),.int .i64 b,.int .u8 s] w fun e w'=>e = .returned (.int .i64 4)∧w.grownBy w' none:=by
 have HN:=qh (where_any K c ss b p w hC hT hp)
 rw [way_none hn] at HN
 clear hC hT hp hn
 go_enter Tryz.func143,Tryz.ntmps143
 go_wp2_with (go_at_call 86;((with_reducible refine HN.out.mono ?_);rintro e w1 ⟨rfl,hg1⟩;have HG1:=qh hg1;clear hg1))
 go_ret
 exact ⟨rfl,HG1.out⟩
theorem turn_bad (s:Int) (i:Nat) (hn:p.1.findIdx? (isOf b)=some i) (hs:¬ (1 ≤ s∧s ≤ 3)):Calls Tryz.prog 143 #[.pointer (some ⟨K.b,0,none⟩),.int .i64 b,.int .u8 s] w fun e w'=>e = .returned (.int .i64 2)∧w.grownBy w' none:=by
 have HN:=qh (where_any K c ss b p w hC hT hp)
 rw [way_some hn] at HN
 have HS:=qh (isState_any s)
 rw [decide_eq_false hs] at HS
 clear hC hT hp hn hs
 go_enter Tryz.func143,Tryz.ntmps143
 go_wp2_with (first
  | (go_at_call 86;((with_reducible refine HN.out.mono ?_);rintro e w1 ⟨rfl,hg1⟩;have HG1:=qh hg1;clear hg1))
  | (go_at_call 166;((with_reducible refine (HS.out _).mono ?_);rintro e w2 ⟨rfl,rfl⟩)))
 go_ret
 exact ⟨rfl,HG1.out⟩
def Ln.state (l:Ln) (s:Int):Ln:=⟨l.b,s,l.d,l.h⟩
theorem turn_ok (s:Int) (i:Nat) (l:Ln) (hn:p.1.findIdx? (isOf b)=some i) (hl:p.1[i]?=some l) (hs:1 ≤ s∧s ≤ 3):Calls Tryz.prog 143 #[.pointer (some ⟨K.b,0,none⟩),.int .i64 b,.int .u8 s] w fun e w'=>e = .returned (.int .i64 0)∧Cac w' K c (ss.set (setOf c b) (p.1.set i (l.state s),p.2))∧Kept K.own w w':=by
 have HN:=qh (where_any K c ss b p w hC hT hp)
 rw [way_some hn] at HN
 have HS:=qh (isState_any s)
 rw [decide_eq_true hs] at HS
 obtain ⟨q,hq,hS⟩:=hC.seen hp
 have hi:=idx_lt hn
 have HB:Hid (∀ w1,w.grownBy w1 none→(w1.cell? ⟨K.gs,setOf c b * 2,none⟩=some (.slice (some ⟨q.1,0,none⟩) p.1.length q.2)∧w1.cell? ⟨q.1,i * 18 + 1,none⟩=some (.int .u8 l.s)∧w1.frozen? ⟨q.1,i * 18 + 1,none⟩=false)∧Cac (w1.setCell ⟨q.1,i * 18 + 1,none⟩ (.int .u8 s)) K c (ss.set (setOf c b) (p.1.set i (l.state s),p.2))∧Kept K.own w (w1.setCell ⟨q.1,i * 18 + 1,none⟩ (.int .u8 s))):=qh fun w1 hg=>
  have hr:=hS.row.grown hg (by simp)
  ⟨⟨hg.cell hS.sl (by simp),hr.at_ i l hl 1 _ (ln1 l),(hr.there hi 1 (by omega)).2⟩,(hC.grown hg).setRow hp hq (grown_setCell _ _ _ _) (by simp) (hr.cell i hi l (l.state s) hl 1 (by omega) _ rfl),(Kept.of hg).trans (Kept.one (grown_setCell _ _ _ _) (.inr ⟨q,List.mem_of_getElem? hq,rfl⟩))⟩
 generalize ss.set (setOf c b) (p.1.set i (l.state s),p.2)=ss' at *
 generalize p.1.length=n at *
 generalize setOf c b=s0 at *
 clear hC hT hp hn hS hq hs hl
 go_enter Tryz.func143,Tryz.ntmps143
 go_wp2_with (first
  | (go_at_call 86;((with_reducible refine HN.out.mono ?_);rintro e w1 ⟨rfl,hg1⟩;have HG1:=qh (HB.out _ hg1).2;obtain ⟨c1,c2,f2⟩:=(HB.out _ hg1).1;clear hg1))
  | (go_at_call 166;((with_reducible refine (HS.out _).mono ?_);rintro e w2 ⟨rfl,rfl⟩)))
 go_ret
 exact ⟨rfl,HG1.out⟩
end
end Go.Proofs.YtcoimipgilkmbaaGreatDoor.kk
namespace Go.Proofs.YtcoimipgilkmbaaGreatDoor.kk
set_option linter.unusedVariables false
set_option linter.unusedSimpArgs false
set_option maxRecDepth 1000000
set_option maxHeartbeats 16000000
open Go Go.ChangeShapes Go.WideShapes Go.ChangeAt Go.RowKit Go.Shelf
open Go.Proofs.YtcoimipgilkmbaaGreatDoor.tt (Tab Cfg U)
def Ln.word (l:Ln) (k:Nat) (x:Int):Ln:=⟨l.b,l.s,l.d.set k x,by rw [List.length_set];exact l.h⟩
theorem ln_word (l:Ln) (k:Nat) (x:Int):ln (l.word k x)=(ln l).set (2 + k) (U x):=by
 rw [Nat.add_comm 2 k]
 simp [ln,Ln.word]
theorem set_set_row {α:Type} (ls:List α) (i:Nat) (x y:α):(ls.set i x).set i y=ls.set i y:=by simp
section
variable (K:Loc) (c:Cfg) (ss:List St) (b:Int) (p:St) (w:World) (hC:Cac w K c ss) (hT:Tab w) (hp:ss[setOf c b]?=some p)
include hC hT hp
theorem write_none (k x:Int) (hn:p.1.findIdx? (isOf b)=none):Calls Tryz.prog 49 #[.pointer (some ⟨K.b,0,none⟩),.int .i64 b,.int .i64 k,.int .u32 x] w fun e w'=>e = .returned (.int .i64 4)∧w.grownBy w' none:=by
 have HN:=qh (where_any K c ss b p w hC hT hp)
 rw [way_none hn] at HN
 clear hC hT hp hn
 go_enter Tryz.func49,Tryz.ntmps49
 go_wp2_with (go_at_call 86;((with_reducible refine HN.out.mono ?_);rintro e w1 ⟨rfl,hg1⟩;have HG1:=qh hg1;clear hg1))
 go_ret
 exact ⟨rfl,HG1.out⟩
theorem write_range (k x:Int) (i:Nat) (hn:p.1.findIdx? (isOf b)=some i) (hk:¬ (0 ≤ k∧k < 16)):Calls Tryz.prog 49 #[.pointer (some ⟨K.b,0,none⟩),.int .i64 b,.int .i64 k,.int .u32 x] w fun e w'=>e = .returned (.int .i64 5)∧w.grownBy w' none:=by
 have HN:=qh (where_any K c ss b p w hC hT hp)
 rw [way_some hn] at HN
 clear hC hT hp hn
 by_cases h0:k < 0
 ·have d1:decide (k < 0)=true:=by simp;omega
  clear hk h0
  go_enter Tryz.func49,Tryz.ntmps49
  go_wp2_with (go_at_call 86;((with_reducible refine HN.out.mono ?_);rintro e w1 ⟨rfl,hg1⟩;have HG1:=qh hg1;clear hg1))
  go_ret
  exact ⟨rfl,HG1.out⟩
 ·have d1:decide (k < 0)=false:=by simp;omega
  have d2:decide (16 ≤ k)=true:=by simp;omega
  clear hk h0
  go_enter Tryz.func49,Tryz.ntmps49
  go_wp2_with (go_at_call 86;((with_reducible refine HN.out.mono ?_);rintro e w1 ⟨rfl,hg1⟩;have HG1:=qh hg1;clear hg1))
  go_ret
  exact ⟨rfl,HG1.out⟩
theorem write_shared (k:Nat) (x:Int) (i:Nat) (l:Ln) (hn:p.1.findIdx? (isOf b)=some i) (hl:p.1[i]?=some l) (hk:k < 16) (hs:l.s=1):Calls Tryz.prog 49 #[.pointer (some ⟨K.b,0,none⟩),.int .i64 b,.int .i64 (k:Int),.int .u32 x] w fun e w'=>e = .returned (.int .i64 8)∧w.grownBy w' none:=by
 have HN:=qh (where_any K c ss b p w hC hT hp)
 rw [way_some hn] at HN
 obtain ⟨q,hq,hS⟩:=hC.seen hp
 have hi:=idx_lt hn
 have HB:Hid (∀ w1,w.grownBy w1 none→(w1.cell? ⟨K.gs,setOf c b * 2,none⟩=some (.slice (some ⟨q.1,0,none⟩) p.1.length q.2)∧w1.cell? ⟨q.1,i * 18 + 1,none⟩=some (.int .u8 1))):=qh fun w1 hg=>
  have hr:=hS.row.grown hg (by simp)
  ⟨hg.cell hS.sl (by simp),(hr.at_ i l hl 1 _ (ln1 l)).trans (by rw [hs])⟩
 generalize p.1.length=n at *
 generalize setOf c b=s0 at *
 clear hC hT hp hn hS hq hs hl
 go_enter Tryz.func49,Tryz.ntmps49
 go_wp2_with (go_at_call 86;((with_reducible refine HN.out.mono ?_);rintro e w1 ⟨rfl,hg1⟩;have HG1:=qh hg1;obtain ⟨c1,c2⟩:=HB.out _ hg1;clear hg1))
 go_ret
 exact ⟨rfl,HG1.out⟩
theorem write_ok (k:Nat) (x:Int) (i:Nat) (l:Ln) (hn:p.1.findIdx? (isOf b)=some i) (hl:p.1[i]?=some l) (hk:k < 16) (hs:l.s ≠ 1) :
  Calls Tryz.prog 49 #[.pointer (some ⟨K.b,0,none⟩),.int .i64 b,.int .i64 (k:Int),.int .u32 x] w fun e w'=>e = .returned (.int .i64 0)∧Cac w' K c (ss.set (setOf c b) (p.1.set i ((l.word k x).state 3),us p.2 p.1.length i))∧Kept K.own w w':=by
 have HN:=qh (where_any K c ss b p w hC hT hp)
 rw [way_some hn] at HN
 obtain ⟨q,hq,hS⟩:=hC.seen hp
 have hi:=idx_lt hn
 have hsl:setOf c b < ss.length:=(List.getElem?_eq_some_iff.1 hp).1
 have HB:Hid (∀ w1,w.grownBy w1 none→(w1.cell? ⟨K.gs,setOf c b * 2,none⟩=some (.slice (some ⟨q.1,0,none⟩) p.1.length q.2)∧w1.cell? ⟨q.1,i * 18 + 1,none⟩=some (.int .u8 l.s)∧w1.frozen? ⟨q.1,i * 18 + 1,none⟩=false∧(∃ u,w1.cell? ⟨q.1,i * 18 + 2 + k,none⟩=some u)∧w1.frozen? ⟨q.1,i * 18 + 2 + k,none⟩=false)∧(w1.setCell ⟨q.1,i * 18 + 2 + k,none⟩ (U x)).cell? ⟨q.1,i * 18 + 1,none⟩=some (.int .u8 l.s) ∧
   Calls Tryz.prog 87 #[.pointer (some ⟨K.gs,setOf c b * 2,none⟩),.int .i64 (i:Int)] ((w1.setCell ⟨q.1,i * 18 + 2 + k,none⟩ (U x)).setCell ⟨q.1,i * 18 + 1,none⟩ (.int .u8 3)) fun e w'=>(∃ v,e = .returned v)∧Cac w' K c (ss.set (setOf c b) (p.1.set i ((l.word k x).state 3),us p.2 p.1.length i))∧Kept K.own w w'):=qh fun w1 hg=>by
  have hr:=hS.row.grown hg (by simp)
  have ha:=hr.at_ i l hl
  have ht:=hr.there hi
  have hr1:=hr.cell i hi l (l.word k x) hl (2 + k) (by omega) (U x) (ln_word l k x)
  have hl1:(p.1.set i (l.word k x))[i]?=some (l.word k x):=List.getElem?_set_self hi
  have hr2:=hr1.cell i (by simpa using hi) (l.word k x) ((l.word k x).state 3) hl1 1 (by omega) (.int .u8 3) rfl
  rw [set_set_row] at hr2
  have hC1:=(hC.grown hg).setRow hp hq (grown_setCell _ _ (i * 18 + (2 + k)) (U x)) (by simp) hr1
  have hC2:=hC1.setRow (List.getElem?_set_self hsl) hq (grown_setCell _ _ (i * 18 + 1) (.int .u8 3)) (by simp) hr2
  rw [set_set_row] at hC2
  have hu:=use_any K c _ (setOf c b) (p.1.set i ((l.word k x).state 3),p.2) i _ hC2 (List.getElem?_set_self hsl) (by simpa using hi)
  simp only [set_set_row,List.length_set] at hu
  rw [Nat.add_assoc] at *
  have ho:K.own q.1:= .inr ⟨q,List.mem_of_getElem? hq,rfl⟩
  refine ⟨⟨hg.cell hS.sl (by simp),ha 1 _ (ln1 l),(ht 1 (by omega)).2,⟨_,ha (2 + k) _ (List.getElem?_eq_getElem (by rw [ln_len];omega))⟩,(ht (2 + k) (by omega)).2⟩,?_,hu.mono ?_⟩
  ·exact hr1.at_ i _ hl1 1 _ (ln1 _)
  ·rintro e w' ⟨hv,hc,hk'⟩
   exact ⟨hv,hc,(((Kept.of hg).trans (Kept.one (grown_setCell _ _ _ _) ho)).trans (Kept.one (grown_setCell _ _ _ _) ho)).trans hk'⟩
 have hs1:(l.s == 1)=false:=by simp [hs]
 generalize ss.set (setOf c b) (p.1.set i ((l.word k x).state 3),us p.2 p.1.length i)=ss' at *
 generalize p.1.length=n at *
 generalize setOf c b=s0 at *
 unfold U at HB
 clear hC hT hp hn hS hq hs hl hsl
 go_enter Tryz.func49,Tryz.ntmps49
 go_wp2_with (first
  | (go_at_call 86;((with_reducible refine HN.out.mono ?_);rintro e w1 ⟨rfl,hg1⟩;have HG1:=qh (HB.out _ hg1).2.2;have c5:=(HB.out _ hg1).2.1;obtain ⟨c1,c2,f2,⟨u,c3⟩,f3⟩:=(HB.out _ hg1).1;clear hg1))
  | (go_at_call 87;((with_reducible refine HG1.out.mono ?_);rintro e w2 ⟨⟨v,rfl⟩,hc2⟩;have HC2:=qh hc2;clear hc2)))
 go_ret
 exact ⟨rfl,HC2.out⟩
end
end Go.Proofs.YtcoimipgilkmbaaGreatDoor.kk
namespace Go.Proofs.YtcoimipgilkmbaaGreatDoor.kk
set_option linter.unusedVariables false
set_option linter.unusedSimpArgs false
set_option maxRecDepth 1000000
set_option maxHeartbeats 16000000
open Go Go.ChangeShapes Go.WideShapes Go.ChangeAt Go.RowKit Go.Shelf
open Go.Proofs.YtcoimipgilkmbaaGreatDoor.tt (hb Tab Cfg grown_refl grown_drew grown_trans grown_alloc)
def Ln.may (l:Ln):Prop:=(0 ≤ l.b∧l.b < 256)∧1 ≤ l.s∧l.s ≤ 3
instance (l:Ln):Decidable l.may:=by unfold Ln.may;infer_instance
theorem box_grown {w w1:World} {l:Ln} (hg:(w.alloc (.cells (la l) 50)).grownBy w1 none):w1.heap[w.heap.size]?=some (.cells (la l) 50 (0,0)):=(hg.block _ (by simp) (by simp)).trans (heap_alloc_new _ _)
theorem named2:∃ (t:TypeId) (n:Nat),Hid (Op.load 50=Op.load t∧Op.store 50=Op.store t)∧(∀ w,(isAgg t).run Tryz.prog w = .ok true w)∧(∀ w,(sizeOf t).run Tryz.prog w = .ok n w) ∧
  (∀ (g o:Nat) (l:Ln) (w:World),w.rangeAt g o (ln l)→(loadCellsFrom ⟨g,o,none⟩ 0 n #[]).run Tryz.prog w = .ok (la l) w)∧(∀ l:Ln,(la l).size=n) ∧
  (∀ (g o:Nat) (l:Ln) (w:World),w.there g o 18→(storeCells ⟨g,o,none⟩ (la l).toList 0).run Tryz.prog w = .ok () (w.setCells g o (ln l))):=
 ⟨50,18,qh ⟨rfl,rfl⟩,Tryz.isAgg50,Tryz.sizeOf50,fun g o l w h=>by
  have:=run_loadCells_list (P:=Tryz.prog) w ⟨g,o,none⟩ (ln l) (fun j v hv=>by rw [add_lit];exact h j v hv)
  simpa [loadCells,ln_len,la] using this,la_size,fun g o l w h=>by
  have:=run_storeCells_cells (P:=Tryz.prog) g o (ln l) 0 w (fun j hj=>by simpa using (h j (by rw [ln_len] at hj;exact hj)).1) (fun j hj=>by simpa using (h j (by rw [ln_len] at hj;exact hj)).2) (ln_one l)
  simpa [la] using this⟩
theorem kept3 {w1:World} {gs o g B o2:Nat} {v:Value} {l:Ln} (c1:w1.cell? ⟨gs,o,none⟩=some v) (hr:w1.rangeAt B 0 (ln l)) (ht:w1.there g o2 18) (h1:gs ≠ g) (h2:B ≠ g) :
  (w1.drew.setCells g o2 (ln l)).cell? ⟨gs,o,none⟩=some v∧(w1.drew.setCells g o2 (ln l)).rangeAt B 0 (ln l)∧(w1.drew.setCells g o2 (ln l)).there g o2 18:=
 ⟨(World.cell?_of_block (w:=w1) (heap_setCells_other g gs h1 _ _ _)).trans c1,range_same hr (heap_setCells_other g B h2 _ _ _),World.there_setCells (w:=w1.drew) (show w1.drew.there g o2 18 from ht) _ _ _⟩
theorem put_nil (l:Ln) (w:World):Calls Tryz.prog 137 #[.pointer none,.agg (la l)] w fun e w'=>e = .returned (.int .i64 1)∧w.grownBy w' none:=by
 go_enter Tryz.func137,Tryz.ntmps137
 go_wp2
 go_ret
 exact ⟨rfl,grown_alloc (grown_refl _ _) _⟩
theorem put_bad (kb:Nat) (l:Ln) (w:World) (hl:¬ l.may):Calls Tryz.prog 137 #[.pointer (some ⟨kb,0,none⟩),.agg (la l)] w fun e w'=>e = .returned (.int .i64 2)∧w.grownBy w' none:=by
 have HB:=qh (isBlock_any l.b)
 have HS:=qh (isState_any l.s)
 obtain ⟨h0,h1⟩:=box_ln w l
 have HG:Hid (w.grownBy (w.alloc (.cells (la l) 50)) none):=qh (grown_alloc (grown_refl _ _) _)
 unfold Ln.may at hl
 by_cases hb:0 ≤ l.b∧l.b < 256
 ·have hs:¬ (1 ≤ l.s∧l.s ≤ 3):=fun h=>hl ⟨hb,h⟩
  rw [decide_eq_true hb] at HB
  rw [decide_eq_false hs] at HS
  clear hl hb hs
  go_enter Tryz.func137,Tryz.ntmps137
  go_wp2_with (first
   | (go_at_call 125;((with_reducible refine (HB.out _).mono ?_);rintro e w1 ⟨rfl,rfl⟩))
   | (go_at_call 166;((with_reducible refine (HS.out _).mono ?_);rintro e w2 ⟨rfl,rfl⟩)))
  go_ret
  exact ⟨rfl,HG.out⟩
 ·rw [decide_eq_false hb] at HB
  clear hl hb HS
  go_enter Tryz.func137,Tryz.ntmps137
  go_wp2_with (first
   | (go_at_call 125;((with_reducible refine (HB.out _).mono ?_);rintro e w1 ⟨rfl,rfl⟩)))
  go_ret
  exact ⟨rfl,HG.out⟩
section
variable (K:Loc) (c:Cfg) (ss:List St) (l:Ln) (p:St) (w:World) (hC:Cac w K c ss) (hT:Tab w) (hp:ss[setOf c l.b]?=some p) (hl:l.may)
include hC hT hp hl
theorem put_full (hn:p.1.findIdx? (isOf l.b)=none) (hf:p.1.findIdx? isFree=none):Calls Tryz.prog 137 #[.pointer (some ⟨K.b,0,none⟩),.agg (la l)] w fun e w'=>e = .returned (.int .i64 7)∧w.grownBy w' none:=by
 have HB:=qh (isBlock_any l.b)
 have HS:=qh (isState_any l.s)
 rw [decide_eq_true hl.1] at HB
 rw [decide_eq_true hl.2] at HS
 have hg0:w.grownBy (w.alloc (.cells (la l) 50)) none:=grown_alloc (grown_refl _ _) _
 obtain ⟨h0,h1⟩:=box_ln w l
 have HN:=qh (where_any K c ss l.b p (w.alloc (.cells (la l) 50)) (hC.grown hg0) (hT.grown hg0) hp)
 rw [way_none hn] at HN
 obtain ⟨q,hq,hS⟩:=hC.seen hp
 have HF:Hid (∀ w1,(w.alloc (.cells (la l) 50)).grownBy w1 none→_):=qh fun w1 hg=>
  have hg':=grown_trans hg0 hg
  free_any K.gs (setOf c l.b * 2) q.1 q.2 p.1.length p.1 w1 rfl (hg'.cell hS.sl (by simp)) (hS.row.grown hg' (by simp)) (hC.wid4 (List.mem_of_getElem? hp)).1
 rw [show ix isFree p.1=-1 by rw [ix,hf]] at HF
 have HG:=qh hg0
 clear hC hT hp hn hf hl hS hq hg0
 go_enter Tryz.func137,Tryz.ntmps137
 go_wp2_with (first
  | (go_at_call 125;((with_reducible refine (HB.out _).mono ?_);rintro e w1 ⟨rfl,rfl⟩))
  | (go_at_call 166;((with_reducible refine (HS.out _).mono ?_);rintro e w2 ⟨rfl,rfl⟩))
  | (go_at_call 86;((with_reducible refine HN.out.mono ?_);rintro e w1 ⟨rfl,hg1⟩;have HG1:=qh hg1;clear hg1))
  | (go_at_call 126;((with_reducible refine (HF.out _ HG1.out).mono ?_);rintro e w2 ⟨rfl,hg2⟩;have HG2:=qh hg2;clear hg2)))
 go_ret
 exact ⟨rfl,grown_trans (grown_trans HG.out HG1.out) HG2.out⟩
omit hT hl in
theorem Put_store (i:Nat) (hi:i < p.1.length) (w1:World) (hg:w.grownBy w1 none):∃ q:Nat × Nat,(w1.cell? ⟨K.gs,setOf c l.b * 2,none⟩=some (.slice (some ⟨q.1,0,none⟩) p.1.length q.2))∧w1.there q.1 (i * 18) 18∧q.1 ≠ K.gs∧q.1 < w.heap.size ∧
  ∀ w2,w1.grownBy w2 none→Calls Tryz.prog 87 #[.pointer (some ⟨K.gs,setOf c l.b * 2,none⟩),.int .i64 (i:Int)] (w2.setCells q.1 (i * 18) (ln l)) fun e w'=>(∃ v,e = .returned v)∧Cac w' K c (ss.set (setOf c l.b) (p.1.set i l,us p.2 p.1.length i))∧Kept K.own w w':=by
 obtain ⟨q,hq,hS⟩:=hC.seen hp
 have hsl:setOf c l.b < ss.length:=(List.getElem?_eq_some_iff.1 hp).1
 refine ⟨q,hg.cell hS.sl (by simp),(hS.row.grown hg (by simp)).there hi,(hC.ne1 (List.mem_of_getElem? hq)).2,hS.row.lt,fun w2 h2=>?_⟩
 have hg2:=grown_trans hg h2
 have hr:=hS.row.grown hg2 (by simp)
 have hC1:=(hC.grown hg2).setRow hp hq (grown_setCells _ _ (i * 18) (ln l)) (by simp) (hr.store i hi l)
 have hu:=use_any K c _ (setOf c l.b) (p.1.set i l,p.2) i _ hC1 (List.getElem?_set_self hsl) (by simpa using hi)
 simp only [set_set_row,List.length_set] at hu
 refine hu.mono ?_
 rintro e w' ⟨hv,hc,hk'⟩
 exact ⟨hv,hc,((Kept.of hg2).trans (Kept.one (grown_setCells _ _ _ _) (.inr ⟨q,List.mem_of_getElem? hq,rfl⟩))).trans hk'⟩
theorem put_old (i:Nat) (hn:p.1.findIdx? (isOf l.b)=some i):Calls Tryz.prog 137 #[.pointer (some ⟨K.b,0,none⟩),.agg (la l)] w fun e w'=>e = .returned (.int .i64 0)∧Cac w' K c (ss.set (setOf c l.b) (p.1.set i l,us p.2 p.1.length i))∧Kept K.own w w':=by
 have HB:=qh (isBlock_any l.b)
 have HS:=qh (isState_any l.s)
 rw [decide_eq_true hl.1] at HB
 rw [decide_eq_true hl.2] at HS
 have hg0:w.grownBy (w.alloc (.cells (la l) 50)) none:=grown_alloc (grown_refl _ _) _
 obtain ⟨h0,h1⟩:=box_ln w l
 have HN:=qh (where_any K c ss l.b p (w.alloc (.cells (la l) 50)) (hC.grown hg0) (hT.grown hg0) hp)
 rw [way_some hn] at HN
 have hi:=idx_lt hn
 have HR:Hid (∀ w1,(w.alloc (.cells (la l) 50)).grownBy w1 none→w1.rangeAt w.heap.size 0 (ln l)):=qh fun w1 hg=>range_of (box_grown hg)
 have HX:=qh (fun w1 hg=>Put_store K c ss l p w hC hp i hi w1 (grown_trans hg0 hg))
 generalize ss.set (setOf c l.b) (p.1.set i l,us p.2 p.1.length i)=ss' at *
 generalize p.1.length=n at *
 generalize setOf c l.b=s at *
 have hlen:=ln_len l
 have hone:=ln_one l
 have hinf:=info36' l
 have hu36:=Tryz.underlying50
 clear hC hT hp hn hl hg0
 go_enter Tryz.func137,Tryz.ntmps137
 go_wp2_with (first
  | (go_at_call 125;((with_reducible refine (HB.out _).mono ?_);rintro e w1 ⟨rfl,rfl⟩))
  | (go_at_call 166;((with_reducible refine (HS.out _).mono ?_);rintro e w2 ⟨rfl,rfl⟩))
  | (go_at_call 86;((with_reducible refine HN.out.mono ?_);rintro e w1 ⟨rfl,hg1⟩;have HG1:=qh hg1;clear hg1)))
 obtain ⟨q,c1,ht,hne,hlt,hu⟩:=HX.out w1 HG1.out
 have hr:=HR.out w1 HG1.out
 have HK:=qh (kept3 c1 hr ht (fun e=>hne e.symm) (by omega))
 have HG2:Hid (w1.grownBy w1.drew none):=qh (grown_drew (grown_refl _ _))
 have HU:=qh hu
 clear hu
 obtain ⟨t,nn,HT,hagg,hsize,hld,hsz,hst⟩:=named2
 have hsz:=hsz l
 have hst:=hst q.1 (i * 18) l
 have hld:=hld w.heap.size 0 l
 rw [HT.out.1,HT.out.2]
 go_region_held (fun w'=>w'.cell? ⟨K.gs,s * 2,none⟩=some (.slice (some ⟨q.1,0,none⟩) n q.2)∧w'.rangeAt w.heap.size 0 (ln l)∧w'.there q.1 (i * 18) 18) (first | exact ⟨c1,hr,ht⟩ | exact HK.out) (fail)
 go_wp2_with (first
  | (go_at_call 87;((with_reducible refine (HU.out _ HG2.out).mono ?_);rintro e w2 ⟨⟨v,rfl⟩,hc2⟩;have HC2:=qh hc2;clear hc2)))
 go_ret
 exact ⟨rfl,HC2.out⟩
theorem put_free (i:Nat) (hn:p.1.findIdx? (isOf l.b)=none) (hf:p.1.findIdx? isFree=some i):Calls Tryz.prog 137 #[.pointer (some ⟨K.b,0,none⟩),.agg (la l)] w fun e w'=>e = .returned (.int .i64 0)∧Cac w' K c (ss.set (setOf c l.b) (p.1.set i l,us p.2 p.1.length i))∧Kept K.own w w':=by
 have HB:=qh (isBlock_any l.b)
 have HS:=qh (isState_any l.s)
 rw [decide_eq_true hl.1] at HB
 rw [decide_eq_true hl.2] at HS
 have hg0:w.grownBy (w.alloc (.cells (la l) 50)) none:=grown_alloc (grown_refl _ _) _
 obtain ⟨h0,h1⟩:=box_ln w l
 have HN:=qh (where_any K c ss l.b p (w.alloc (.cells (la l) 50)) (hC.grown hg0) (hT.grown hg0) hp)
 rw [way_none hn] at HN
 have hi:=idx_lt hf
 obtain ⟨q,hq,hS⟩:=hC.seen hp
 have HF:Hid (∀ w1,(w.alloc (.cells (la l) 50)).grownBy w1 none→_):=qh fun w1 hg=>
  have hg':=grown_trans hg0 hg
  free_any K.gs (setOf c l.b * 2) q.1 q.2 p.1.length p.1 w1 rfl (hg'.cell hS.sl (by simp)) (hS.row.grown hg' (by simp)) (hC.wid4 (List.mem_of_getElem? hp)).1
 rw [show ix isFree p.1=(i:Int) by rw [ix,hf]] at HF
 have HR:Hid (∀ w1,(w.alloc (.cells (la l) 50)).grownBy w1 none→w1.rangeAt w.heap.size 0 (ln l)):=qh fun w1 hg=>range_of (box_grown hg)
 have HX:=qh (fun w1 hg=>Put_store K c ss l p w hC hp i hi w1 (grown_trans hg0 hg))
 generalize ss.set (setOf c l.b) (p.1.set i l,us p.2 p.1.length i)=ss' at *
 clear hS hq q
 generalize p.1.length=n at *
 generalize setOf c l.b=s at *
 have hlen:=ln_len l
 have hone:=ln_one l
 have hinf:=info36' l
 have hu36:=Tryz.underlying50
 clear hC hT hp hn hl hg0 hf
 go_enter Tryz.func137,Tryz.ntmps137
 go_wp2_with (first
  | (go_at_call 125;((with_reducible refine (HB.out _).mono ?_);rintro e w1 ⟨rfl,rfl⟩))
  | (go_at_call 166;((with_reducible refine (HS.out _).mono ?_);rintro e w2 ⟨rfl,rfl⟩))
  | (go_at_call 86;((with_reducible refine HN.out.mono ?_);rintro e w1 ⟨rfl,hg1⟩;have HG0:=qh hg1;clear hg1))
  | (go_at_call 126;((with_reducible refine (HF.out _ HG0.out).mono ?_);rintro e w2 ⟨rfl,hg2⟩;have HG1:=qh (grown_trans HG0.out hg2);clear hg2)))
 obtain ⟨q,c1,ht,hne,hlt,hu⟩:=HX.out w2 HG1.out
 have hr:=HR.out w2 HG1.out
 have HK:=qh (kept3 c1 hr ht (fun e=>hne e.symm) (by omega))
 have HG2:Hid (w2.grownBy w2.drew none):=qh (grown_drew (grown_refl _ _))
 have HU:=qh hu
 clear hu
 obtain ⟨t,nn,HT,hagg,hsize,hld,hsz,hst⟩:=named2
 have hsz:=hsz l
 have hst:=hst q.1 (i * 18) l
 have hld:=hld w.heap.size 0 l
 rw [HT.out.1,HT.out.2]
 go_region_held (fun w'=>w'.cell? ⟨K.gs,s * 2,none⟩=some (.slice (some ⟨q.1,0,none⟩) n q.2)∧w'.rangeAt w.heap.size 0 (ln l)∧w'.there q.1 (i * 18) 18) (first | exact ⟨c1,hr,ht⟩ | exact HK.out) (fail)
 go_wp2_with (first
  | (go_at_call 87;((with_reducible refine (HU.out _ HG2.out).mono ?_);rintro e w3 ⟨⟨v,rfl⟩,hc2⟩;have HC2:=qh hc2;clear hc2)))
 go_ret
 exact ⟨rfl,HC2.out⟩
end
end Go.Proofs.YtcoimipgilkmbaaGreatDoor.kk
namespace Go.Proofs.YtcoimipgilkmbaaGreatDoor.kk
set_option linter.unusedVariables false
set_option linter.unusedSimpArgs false
set_option maxRecDepth 1000000
set_option maxHeartbeats 16000000
open Go Go.ChangeShapes Go.WideShapes Go.ChangeAt Go.RowKit Go.Shelf
open Go.Proofs.YtcoimipgilkmbaaGreatDoor.tt (hb Tab Cfg grown_refl grown_drew grown_trans grown_alloc)
theorem kept4 {w1:World} {gs o g B o2 k:Nat} {v:Value} {l l':Ln} (c1:w1.cell? ⟨gs,o,none⟩=some v) (hr:w1.rangeAt g o2 (ln l)) (ht:w1.there B 0 18) (h1:gs ≠ B) (h2:g ≠ B) :
  ((w1.drewN k).setCells B 0 (ln l')).cell? ⟨gs,o,none⟩=some v∧((w1.drewN k).setCells B 0 (ln l')).rangeAt g o2 (ln l)∧((w1.drewN k).setCells B 0 (ln l')).there B 0 18:=
 ⟨(World.cell?_of_block (w:=w1) (heap_setCells_other B gs h1 _ _ _)).trans c1,range_same hr (heap_setCells_other B g h2 _ _ _),World.there_setCells (w:=w1.drewN k) (show (w1.drewN k).there B 0 18 from ht) _ _ _⟩
theorem there_of {w:World} {g:Nat} {l:Ln} (h:w.heap[g]?=some (.cells (la l) 50 (0,0))):w.there g 0 18:=fun j hj=>by
 rw [Nat.zero_add,cell_of_row _ _ j _ _ _ h,Array.getElem?_eq_getElem (by rw [la_size];exact hj)]
 exact ⟨rfl,frozen_of_row _ _ _ _ _ h⟩
section
variable (b:Int) (w:World)
theorem goes_bad (v:Value) (hb:¬ (0 ≤ b∧b < 256)):Calls Tryz.prog 90 #[v,.int .i64 b] w fun e w'=>e = .returned (.tuple #[.agg (la zl),.bool false])∧w.grownBy w' none:=by
 have HB:=qh (isBlock_any b)
 rw [decide_eq_false hb] at HB
 have HZ:Hid (la zl=_):=qh zl_la
 have HH:Hid ((w.alloc (.cells (la zl) 50)).heap[w.heap.size]?=some (.cells (la zl) 50 (0,0))):=qh (heap_alloc_new _ _)
 have HG:Hid (w.grownBy (w.alloc (.cells (la zl) 50)) none):=qh (grown_alloc (grown_refl _ _) _)
 rw [HZ.out] at HH HG
 clear hb
 go_enter Tryz.func90,Tryz.ntmps90
 go_wp2_with (first
  | (go_at_call 125;((with_reducible refine (HB.out _).mono ?_);rintro e w1 ⟨rfl,rfl⟩))
  | ((with_reducible refine store_any zl zl 4 11 w.heap.size ?_ ?_ ?_ ?_);(rfl);(rfl);(exact HH.out)))
 exact ret_ln rfl _ zl _ w.heap.size _ _ (by rfl) (by rfl) (range_of (setRow_heap _ _ _ _ _ _ HH.out)) (by exact ⟨rfl,grown_setRow HG.out _ (Nat.le_refl _) _⟩)
theorem own_after {w w1:World} (hg:(w.alloc (.cells (la zl) 50)).grownBy w1 none):w1.heap[w.heap.size]?=some (.cells (la zl) 50 (0,0))∧w.grownBy w1 none:=
 ⟨box_grown hg,grown_trans (grown_alloc (grown_refl _ _) _) hg⟩
theorem goes_nil (hb:0 ≤ b∧b < 256):Calls Tryz.prog 90 #[.pointer none,.int .i64 b] w fun e w'=>e = .returned (.tuple #[.agg (la zl),.bool false])∧w.grownBy w' none:=by
 have HB:=qh (isBlock_any b)
 rw [decide_eq_true hb] at HB
 have HN:=qh (where_nil b)
 have HZ:Hid (la zl=_):=qh zl_la
 have HO:Hid (∀ w1,(w.alloc (.cells (la zl) 50)).grownBy w1 none→_):=qh fun w1 hg=>own_after hg
 rw [HZ.out] at HO
 clear hb
 go_enter Tryz.func90,Tryz.ntmps90
 go_wp2_with (first
  | (go_at_call 125;((with_reducible refine (HB.out _).mono ?_);rintro e w1 ⟨rfl,rfl⟩))
  | (go_at_call 86;((with_reducible refine (HN.out _).mono ?_);rintro e w1 ⟨rfl,hg1⟩;have HG1:=qh (HO.out _ hg1);clear hg1))
  | ((with_reducible refine store_any zl zl 4 29 w.heap.size ?_ ?_ ?_ ?_);(rfl);(rfl);(exact HG1.out.1)))
 exact ret_ln rfl _ zl _ w.heap.size _ _ (by rfl) (by rfl) (range_of (setRow_heap _ _ _ _ _ _ HG1.out.1)) (by exact ⟨rfl,grown_setRow HG1.out.2 _ (Nat.le_refl _) _⟩)
variable (K:Loc) (c:Cfg) (ss:List St) (p:St) (hC:Cac w K c ss) (hT:Tab w) (hp:ss[setOf c b]?=some p) (hb:0 ≤ b∧b < 256)
include hC hT hp hb
theorem goes_old (i:Nat) (hn:p.1.findIdx? (isOf b)=some i):Calls Tryz.prog 90 #[.pointer (some ⟨K.b,0,none⟩),.int .i64 b] w fun e w'=>e = .returned (.tuple #[.agg (la zl),.bool false])∧w.grownBy w' none:=by
 have HB:=qh (isBlock_any b)
 rw [decide_eq_true hb] at HB
 have hg0:w.grownBy (w.alloc (.cells (la zl) 50)) none:=grown_alloc (grown_refl _ _) _
 have HN:=qh (where_any K c ss b p (w.alloc (.cells (la zl) 50)) (hC.grown hg0) (hT.grown hg0) hp)
 rw [way_some hn] at HN
 have HZ:Hid (la zl=_):=qh zl_la
 have HO:Hid (∀ w1,(w.alloc (.cells (la zl) 50)).grownBy w1 none→_):=qh fun w1 hg=>own_after hg
 rw [HZ.out] at HO HN
 generalize setOf c b=s at *
 clear hb hC hT hp hn hg0
 go_enter Tryz.func90,Tryz.ntmps90
 go_wp2_with (first
  | (go_at_call 125;((with_reducible refine (HB.out _).mono ?_);rintro e w1 ⟨rfl,rfl⟩))
  | (go_at_call 86;((with_reducible refine HN.out.mono ?_);rintro e w1 ⟨rfl,hg1⟩;have HG1:=qh (HO.out _ hg1);clear hg1))
  | ((with_reducible refine store_any zl zl 4 29 w.heap.size ?_ ?_ ?_ ?_);(rfl);(rfl);(exact HG1.out.1)))
 exact ret_ln rfl _ zl _ w.heap.size _ _ (by rfl) (by rfl) (range_of (setRow_heap _ _ _ _ _ _ HG1.out.1)) (by exact ⟨rfl,grown_setRow HG1.out.2 _ (Nat.le_refl _) _⟩)
theorem goes_free (i:Nat) (hn:p.1.findIdx? (isOf b)=none) (hf:p.1.findIdx? isFree=some i):Calls Tryz.prog 90 #[.pointer (some ⟨K.b,0,none⟩),.int .i64 b] w fun e w'=>e = .returned (.tuple #[.agg (la zl),.bool false])∧w.grownBy w' none:=by
 have HB:=qh (isBlock_any b)
 rw [decide_eq_true hb] at HB
 have hg0:w.grownBy (w.alloc (.cells (la zl) 50)) none:=grown_alloc (grown_refl _ _) _
 have HN:=qh (where_any K c ss b p (w.alloc (.cells (la zl) 50)) (hC.grown hg0) (hT.grown hg0) hp)
 rw [way_none hn] at HN
 obtain ⟨q,hq,hS⟩:=hC.seen hp
 have HF:Hid (∀ w1,(w.alloc (.cells (la zl) 50)).grownBy w1 none→_):=qh fun w1 hg=>
  have hg':=grown_trans hg0 hg
  free_any K.gs (setOf c b * 2) q.1 q.2 p.1.length p.1 w1 rfl (hg'.cell hS.sl (by simp)) (hS.row.grown hg' (by simp)) (hC.wid4 (List.mem_of_getElem? hp)).1
 rw [show ix isFree p.1=(i:Int) by rw [ix,hf]] at HF
 have HZ:Hid (la zl=_):=qh zl_la
 have HO:Hid (∀ w1,(w.alloc (.cells (la zl) 50)).grownBy w1 none→_):=qh fun w1 hg=>own_after hg
 rw [HZ.out] at HO HN HF
 clear hS hq q
 generalize setOf c b=s at *
 clear hb hC hT hp hn hg0 hf
 go_enter Tryz.func90,Tryz.ntmps90
 go_wp2_with (first
  | (go_at_call 125;((with_reducible refine (HB.out _).mono ?_);rintro e w1 ⟨rfl,rfl⟩))
  | (go_at_call 86;((with_reducible refine HN.out.mono ?_);rintro e w1 ⟨rfl,hg1⟩;have HG0:=qh hg1;clear hg1))
  | (go_at_call 126;((with_reducible refine (HF.out _ HG0.out).mono ?_);rintro e w2 ⟨rfl,hg2⟩;have HG1:=qh (HO.out _ (grown_trans HG0.out hg2));clear hg2))
  | ((with_reducible refine store_any zl zl 4 29 w.heap.size ?_ ?_ ?_ ?_);(rfl);(rfl);(exact HG1.out.1)))
 exact ret_ln rfl _ zl _ w.heap.size _ _ (by rfl) (by rfl) (range_of (setRow_heap _ _ _ _ _ _ HG1.out.1)) (by exact ⟨rfl,grown_setRow HG1.out.2 _ (Nat.le_refl _) _⟩)
theorem goes_some (l:Ln) (hn:p.1.findIdx? (isOf b)=none) (hf:p.1.findIdx? isFree=none) (hl:p.1[vc p.2 p.1.length]?=some l):Calls Tryz.prog 90 #[.pointer (some ⟨K.b,0,none⟩),.int .i64 b] w fun e w'=>e = .returned (.tuple #[.agg (la l),.bool true])∧w.grownBy w' none:=by
 have HB:=qh (isBlock_any b)
 rw [decide_eq_true hb] at HB
 have hg0:w.grownBy (w.alloc (.cells (la zl) 50)) none:=grown_alloc (grown_refl _ _) _
 have HN:=qh (where_any K c ss b p (w.alloc (.cells (la zl) 50)) (hC.grown hg0) (hT.grown hg0) hp)
 rw [way_none hn] at HN
 obtain ⟨q,hq,hS⟩:=hC.seen hp
 have HF:Hid (∀ w1,(w.alloc (.cells (la zl) 50)).grownBy w1 none→_):=qh fun w1 hg=>
  have hg':=grown_trans hg0 hg
  free_any K.gs (setOf c b * 2) q.1 q.2 p.1.length p.1 w1 rfl (hg'.cell hS.sl (by simp)) (hS.row.grown hg' (by simp)) (hC.wid4 (List.mem_of_getElem? hp)).1
 rw [show ix isFree p.1=-1 by rw [ix,hf]] at HF
 have HV:Hid (∀ w1,(w.alloc (.cells (la zl) 50)).grownBy w1 none→_):=qh fun w1 hg=>victim_any K c ss (setOf c b) p w1 (hC.grown (grown_trans hg0 hg)) hp
 have HX:Hid (∀ w1,(w.alloc (.cells (la zl) 50)).grownBy w1 none→w1.cell? ⟨K.gs,setOf c b * 2,none⟩=some (.slice (some ⟨q.1,0,none⟩) p.1.length q.2)∧w1.rangeAt q.1 (vc p.2 p.1.length * 18) (ln l)∧w1.there w.heap.size 0 18):=qh fun w1 hg=>
  have hg':=grown_trans hg0 hg
  ⟨hg'.cell hS.sl (by simp),(hS.row.grown hg' (by simp)).at_ _ l hl,there_of (box_grown hg)⟩
 have hN1:K.gs ≠ w.heap.size:=by have:=hC.ltg;omega
 have hN2:q.1 ≠ w.heap.size:=by have:=hS.row.lt;omega
 have hv:vc p.2 p.1.length < p.1.length:=(List.getElem?_eq_some_iff.1 hl).1
 have HZ:Hid (la zl=_):=qh zl_la
 have HO:Hid (∀ w1,(w.alloc (.cells (la zl) 50)).grownBy w1 none→_):=qh fun w1 hg=>own_after hg
 rw [HZ.out] at HO HN HF HV HX
 clear hS hq
 generalize vc p.2 p.1.length=v at *
 generalize p.1.length=n at *
 generalize setOf c b=s at *
 have hlen:=ln_len l
 have hone:=ln_one l
 clear hb hC hT hp hn hg0 hf hl
 go_enter Tryz.func90,Tryz.ntmps90
 go_wp2_with (first
  | (go_at_call 125;((with_reducible refine (HB.out _).mono ?_);rintro e w1 ⟨rfl,rfl⟩))
  | (go_at_call 86;((with_reducible refine HN.out.mono ?_);rintro e w1 ⟨rfl,hg1⟩;have HG0:=qh hg1;clear hg1))
  | (go_at_call 126;((with_reducible refine (HF.out _ HG0.out).mono ?_);rintro e w2 ⟨rfl,hg2⟩;have HG2:=qh (grown_trans HG0.out hg2);clear hg2)))
 obtain ⟨c1,hr,ht⟩:=HX.out w2 HG2.out
 have HG1:=qh (HO.out w2 HG2.out)
 have HK:Hid (∀ k,_):=qh (fun k=>kept4 (k:=k) (l':=l) c1 hr ht hN1 hN2)
 have HD:Hid (∀ w',w'= w2.drew→_):=qh (fun w' (hw:w'=w2.drew)=>HV.out w' (hw ▸ grown_drew HG2.out))
 obtain ⟨t,nn,HT,hagg,hsize,hld,hsz,hst⟩:=named2
 have hsz:=hsz l
 have hst:=hst w.heap.size 0 l
 have hld:=hld q.1 (v * 18) l
 rw [HT.out.1,HT.out.2]
 go_region_held (fun w'=>w'.cell? ⟨K.gs,s * 2,none⟩=some (.slice (some ⟨q.1,0,none⟩) n q.2)∧w'.rangeAt q.1 (v * 18) (ln l)∧w'.there w.heap.size 0 18) (first | exact ⟨c1,hr,ht⟩ | exact HK.out _) (first | (go_at_call 127;refine (HD.out _ rfl).mono ?_;rintro e w5 ⟨rfl,n5,rfl⟩))
 go_wp2_with fail
 have HR:Hid (((w2.drewN (1 + n5)).setCells w.heap.size 0 (ln l)).rangeAt w.heap.size 0 (ln l)):=qh (World.rangeAt_setCells_same _ _ _ _ (by rw [ln_len];exact ht))
 have HE:Hid (w.grownBy ((w2.drewN (1 + n5)).setCells w.heap.size 0 (ln l)) none):=qh (by
  have h1:=grown_trans HG1.out.2 (grown_drewN w2 (1 + n5) none)
  have h2:=grown_setCells (w2.drewN (1 + n5)) w.heap.size 0 (ln l)
  exact ⟨h2.os.trans h1.os,h2.tape.trans h1.tape,h2.output.trans h1.output,Nat.le_trans h1.size h2.size,fun k hk hn=>(h2.block k (Nat.lt_of_lt_of_le hk h1.size) (by simp;omega)).trans (h1.block k hk hn)⟩)
 exact ret_ln rfl _ l _ w.heap.size _ _ (by rfl) (by rfl) HR.out (by exact ⟨rfl,HE.out⟩)
end
end Go.Proofs.YtcoimipgilkmbaaGreatDoor.kk
namespace Go.Proofs.YtcoimipgilkmbaaGreatDoor.kk
set_option linter.unusedVariables false
set_option linter.unusedSimpArgs false
set_option maxRecDepth 1000000
set_option maxHeartbeats 16000000
open Go Go.ChangeShapes Go.WideShapes Go.ChangeAt Go.RowKit Go.Shelf
open Go.Proofs.YtcoimipgilkmbaaGreatDoor.tt (hb Tab Cfg cfg_at yes_of may_any yes_not grown_refl grown_trans grown_alloc)
theorem make_many {P:Program} {w:World} {ops:Array Oper} {rest:List Oper} {a:Act} {Q:Exit→Act→World→Prop} {dst:Option Tmp} {ty:TypeId} {pos:String} {after:Array Edge}
  (t e:TypeId) (i:TypeInfo) (z:Value) (l c:Tmp) (n size:Nat) (ht:P.underlying t=some (.slice e)) (hi:P.info? e=some i) (hz:i.zero=some z) (h1:i.size=size) (hc:z.cells.size=size) (h0:0 < size)
  (el:a.eval (.tmp l) = .int .i64 (n:Int)) (ec:a.eval (.tmp c) = .int .i64 (n:Int)) (hb:(i.bytes:Int) * (n:Int) ≤ 281474976710656) (h63:(n:Int) ≤ 9223372036854775807)
  (h:∀ cs:Array Value,cs.size=n * size→(∀ (j k:Nat) v,j < n→z.cells[k]?=some v→cs[j * size + k]?=some v)→wpList P ops Q rest (a.put dst (.slice (some ⟨w.heap.size,0,none⟩) n n)) (w.alloc (.cells cs e))) :
  wpList P ops Q (⟨dst,.makeSlice t (.tmp l) (.tmp c),ty,pos,after,none⟩ :: rest) a w:=by
 refine wpList_plain rfl fun K hK'=>?_
 have hrun:=run_make (P:=P) w t e i z ht hi hz .i64 .i64 n n (by omega) (Int.le_refl _) hb h63
 rw [Int.toNat_natCast,h1] at hrun
 unfold Oper.wp
 simp [execOp,el,ec,hrun,Result.andThen]
 refine hK' _ _ (h _ (by rw [size_madeCells]) fun j k v hj hk=>?_)
 have hks:k < size:=by have:=(Array.getElem?_eq_some_iff.1 hk).1;omega
 have hjk:j * size + k < n * size:=by
  have:(j + 1) * size ≤ n * size:=Nat.mul_le_mul_right _ hj
  rw [Nat.add_mul,Nat.one_mul] at this
  omega
 unfold madeCells
 rw [Array.getElem?_map,Array.getElem?_range,if_pos hjk]
 simp only [Option.map_some,hc]
 rw [Nat.mul_comm j size,Nat.mul_add_mod,Nat.mod_eq_of_lt hks,getElem!_def,hk]
theorem info69:(Tryz.prog.info? 149).map (fun i=>(i.zero,i.size,i.bytes))=some (some (.agg #[.slice none 0 0,.int .u8 0]),2,32):=by kernel_rfl
theorem info36z:(Tryz.prog.info? 50).map (fun i=>(i.zero,i.size,i.bytes))=some (some (.agg (la zl)),18,80):=by kernel_rfl
structure Mak (w1 wr:World) (G:Nat) (gr:List Nat) (S W:Nat):Prop where
 grown:w1.grownBy wr none
 new:w1.heap.size ≤ G
 blk:∃ cur,wr.heap[G]?=some (.cells cur 149 (0,0))∧cur.size=S * 2∧(∀ (j:Nat) q,gr[j]?=some q→cur[j * 2]?=some (.slice (some ⟨q,0,none⟩) W W))∧(∀ j,j < S→cur[j * 2 + 1]?=some (.int .u8 0))
 rows:∀ (j:Nat) q,gr[j]?=some q→G < q∧RowAt wr q (List.replicate W zl)
 inj:∀ (i j:Nat) q,gr[i]?=some q→gr[j]?=some q→i=j
theorem Mak.put {w1 wr:World} {G S W:Nat} {gr:List Nat} (h:Mak w1 wr G gr S W) (hs:gr.length < S) (cs:Array Value) (hcs:cs.size=W * 18) (hz:∀ (j k:Nat) v,j < W→(la zl)[k]?=some v→cs[j * 18 + k]?=some v) :
  (wr.alloc (.cells cs 50)).frozen? ⟨G,gr.length * 2,none⟩=false∧(∃ u,(wr.alloc (.cells cs 50)).cell? ⟨G,gr.length * 2,none⟩=some u)∧Mak w1 ((wr.alloc (.cells cs 50)).setCell ⟨G,gr.length * 2,none⟩ (.slice (some ⟨wr.heap.size,0,none⟩) W W)) G (gr ++ [wr.heap.size]) S W:=by
 obtain ⟨cur,hG,h2,h3,h4⟩:=h.blk
 have hltG:=lt_of hG
 have hG':(wr.alloc (.cells cs 50)).heap[G]?=some (.cells cur 149 (0,0)):=(Below.heap_alloc _ _ _ hltG).trans hG
 have hgr:w1.grownBy (wr.alloc (.cells cs 50)) none:=grown_alloc h.grown _
 have hset:=grown_setCell (wr.alloc (.cells cs 50)) G (gr.length * 2) (.slice (some ⟨wr.heap.size,0,none⟩) W W)
 refine ⟨frozen_of_row _ _ _ _ _ hG',⟨_,(cell_of_row _ _ _ _ _ _ hG').trans (Array.getElem?_eq_getElem (by omega))⟩,⟨?_,h.new,⟨_,blk_setCell _ hG',by simp [h2],fun j q hq=>?_,fun j hj=>?_⟩,fun j q hq=>?_,fun i j q hi hj=>?_⟩⟩
 ·exact ⟨hset.os.trans hgr.os,hset.tape.trans hgr.tape,hset.output.trans hgr.output,Nat.le_trans hgr.size hset.size,fun k hk hn=>(hset.block k (Nat.lt_of_lt_of_le hk hgr.size) (by have:=h.new;simp;omega)).trans (hgr.block k hk hn)⟩
 ·rw [Array.set!_eq_setIfInBounds,Array.getElem?_setIfInBounds]
  by_cases hjl:j=gr.length
  ·subst hjl
   rw [if_pos rfl,if_pos (by omega)]
   rw [List.getElem?_append_right (Nat.le_refl _)] at hq
   simp at hq
   subst hq;rfl
  ·rw [if_neg (by omega)]
   have hlt:j < (gr ++ [wr.heap.size]).length:=(List.getElem?_eq_some_iff.1 hq).1
   rw [List.getElem?_append_left (by simp at hlt;omega)] at hq
   exact h3 j q hq
 ·rw [Array.set!_eq_setIfInBounds,Array.getElem?_setIfInBounds,if_neg (by omega)]
  exact h4 j hj
 ·by_cases hjl:j=gr.length
  ·subst hjl
   rw [List.getElem?_append_right (Nat.le_refl _)] at hq
   simp at hq
   subst hq
   refine ⟨hltG,?_⟩
   have hb:((wr.alloc (.cells cs 50)).setCell ⟨G,gr.length * 2,none⟩ (.slice (some ⟨wr.heap.size,0,none⟩) W W)).heap[wr.heap.size]?=some (.cells cs 50 (0,0)):=(heap_setCell_other' _ _ _ _ (by simp;omega)).trans (heap_alloc_new _ _)
   refine ⟨⟨_,hb⟩,fun j l hl i v hv=>?_⟩
   rw [List.getElem?_replicate] at hl
   split at hl
   ·cases hl
    exact (cell_of_row _ _ _ _ _ _ hb).trans (hz j i v (by assumption) (by simpa [la] using hv))
   ·cases hl
  ·have hlt:j < (gr ++ [wr.heap.size]).length:=(List.getElem?_eq_some_iff.1 hq).1
   rw [List.getElem?_append_left (by simp at hlt;omega)] at hq
   obtain ⟨r1,r2⟩:=h.rows j q hq
   exact ⟨r1,r2.same ((hset.block q (by have:=r2.lt;simp;omega) (by simp;omega)).trans (Below.heap_alloc _ _ _ r2.lt))⟩
 ·rw [List.getElem?_append] at hi hj
  split at hi <;> split at hj
  ·exact h.inj i j q hi hj
  ·have h1:=(h.rows i q hi).2.lt
   have h2:=List.mem_of_getElem? hj
   simp at h2;omega
  ·have h1:=(h.rows j q hj).2.lt
   have h2:=List.mem_of_getElem? hi
   simp at h2;omega
  ·have h1:=(List.getElem?_eq_some_iff.1 hi).1
   have h2:=(List.getElem?_eq_some_iff.1 hj).1
   simp at h1 h2;omega
theorem new_no (c:Cfg) (w:World) (hT:Tab w) (hm:¬ c.may):Calls Tryz.prog 43 #[.agg c.cells] w fun e w'=>e = .returned (.tuple #[.pointer none,.int .i64 2])∧w.grownBy w' none:=by
 have HG0:Hid (w.grownBy (w.alloc (.cells c.cells 27)) none):=qh (grown_alloc (grown_refl _ _) _)
 have HM:=qh (may_any c (w.alloc (.cells c.cells 27)) (hT.grown HG0.out))
 rw [yes_not hm] at HM
 clear hT hm
 unfold Cfg.cells at *
 go_enter Tryz.func43,Tryz.ntmps43
 go_wp2_with (first
  | (go_at_call 42;((with_reducible refine HM.out.mono ?_);rintro e w1 ⟨rfl,hg1⟩;have HG1:=qh hg1;clear hg1)))
 go_ret2
 exact ⟨rfl,grown_trans HG0.out HG1.out⟩
def empty (c:Cfg):List St:=List.replicate c.se.toNat (List.replicate c.wa.toNat zl,0)
theorem Mak.cac {w1 wr:World} {G:Nat} {gr:List Nat} {c:Cfg} (hm:c.may) (h:Mak w1 wr G gr c.se.toNat c.wa.toNat) (hl:gr.length=c.se.toNat) :
  Cac (wr.alloc (.cells (c.cells ++ #[.slice (some ⟨G,0,none⟩) c.se.toNat c.se.toNat]) 151)) ⟨wr.heap.size,G,c.se.toNat,gr.map fun q=>(q,c.wa.toNat)⟩ c (empty c):=by
 obtain ⟨cur,hG,h2,h3,h4⟩:=h.blk
 have hs:=hm.sets
 have hw:=hm.ways
 have hG':(wr.alloc (.cells (c.cells ++ #[.slice (some ⟨G,0,none⟩) c.se.toNat c.se.toNat]) 151)).heap[G]?=some (.cells cur 149 (0,0)):=(Below.heap_alloc _ _ _ (lt_of hG)).trans hG
 have hget:∀ (i:Nat) p,(empty c)[i]?=some p→i < c.se.toNat∧p=(List.replicate c.wa.toNat zl,0):=fun i p hp=>by
  unfold empty at hp
  rw [List.getElem?_replicate] at hp
  split at hp
  ·exact ⟨by assumption,by cases hp;rfl⟩
  ·cases hp
 have hgr:∀ (i:Nat) q,(gr.map fun q=>(q,c.wa.toNat))[i]?=some q→gr[i]?=some q.1∧q.2=c.wa.toNat:=fun i q hq=>by
  rw [List.getElem?_map,Option.map_eq_some_iff] at hq
  obtain ⟨a,ha,rfl⟩:=hq
  exact ⟨ha,rfl⟩
 refine ⟨?_,⟨cur,hG'⟩,by simp [empty,hl],fun i p q hp hq=>?_,fun i p hp=>?_,fun i p q hp hq=>?_,fun i j q q' hq hq' e=>?_,by simp [empty];omega,fun p hp=>?_,fun p hp=>?_,hm⟩
 ·have:=heap_alloc_new wr (.cells (c.cells ++ #[.slice (some ⟨G,0,none⟩) c.se.toNat c.se.toNat]) 151)
  rw [show (empty c).length=c.se.toNat by simp [empty]]
  exact this
 ·obtain ⟨_,rfl⟩:=hget i p hp
  obtain ⟨hq1,hq2⟩:=hgr i q hq
  rw [List.length_replicate,hq2]
  exact (cell_of_row _ _ _ _ _ _ hG').trans (h3 i q.1 hq1)
 ·obtain ⟨hi,rfl⟩:=hget i p hp
  exact (cell_of_row _ _ _ _ _ _ hG').trans (h4 i hi)
 ·obtain ⟨_,rfl⟩:=hget i p hp
  have hr:=(h.rows i q.1 (hgr i q hq).1).2
  exact hr.same (Below.heap_alloc _ _ _ hr.lt)
 ·have h1:=(hgr i q hq).1
  have h2:=(hgr j q' hq').1
  rw [← e] at h2
  exact h.inj i j _ h1 h2
 ·rw [List.eq_of_mem_replicate hp,List.length_replicate];omega
 ·rw [List.eq_of_mem_replicate hp];exact (by decide:(0:Nat) < 256)
theorem new_ok (c:Cfg) (w:World) (hT:Tab w) (hm:c.may):Calls Tryz.prog 43 #[.agg c.cells] w fun e w'=>∃ K:Loc,e = .returned (.tuple #[.pointer (some ⟨K.b,0,none⟩),.int .i64 0])∧Cac w' K c (empty c)∧w.grownBy w' none∧∀ k,K.any k→w.heap.size ≤ k:=by
 have HG0:Hid (w.grownBy (w.alloc (.cells c.cells 27)) none):=qh (grown_alloc (grown_refl _ _) _)
 have HA:=qh (cfg_at w c)
 have HM:=qh (may_any c (w.alloc (.cells c.cells 27)) (hT.grown HG0.out))
 rw [yes_of hm] at HM
 have hs:=hm.sets
 have hw:=hm.ways
 obtain ⟨S,hS⟩:∃ S,S=c.se.toNat:=⟨_,rfl⟩
 obtain ⟨W,hW⟩:∃ W,W=c.wa.toNat:=⟨_,rfl⟩
 have eS:c.se=(S:Int):=by omega
 have eW:c.wa=(W:Int):=by omega
 have hS16:1 ≤ S∧S ≤ 16:=by omega
 have hW4:1 ≤ W∧W ≤ 4:=by omega
 have HFIN:Hid (∀ (w1 wr:World) G gr,Mak w1 wr G gr S W→gr.length=S→Cac (wr.alloc (.cells (c.cells ++ #[.slice (some ⟨G,0,none⟩) S S]) 151)) ⟨wr.heap.size,G,S,gr.map fun q=>(q,W)⟩ c (empty c)):=qh fun w1 wr G gr h hl=>by
  rw [hS,hW] at *
  exact Mak.cac hm h hl
 obtain ⟨i69,hi69,hii⟩:=Option.map_eq_some_iff.1 info69
 simp at hii
 obtain ⟨z69,s69,y69⟩:=hii
 obtain ⟨i36,hi36,hii⟩:=Option.map_eq_some_iff.1 info36z
 simp at hii
 obtain ⟨z36,s36,y36⟩:=hii
 have HI69:=qh hi69
 have HZ69:=qh z69
 have HS69:=qh s69
 have HY69:=qh y69
 have HI36:=qh hi36
 have HZ36:=qh z36
 have HS36:=qh s36
 have HY36:=qh y36
 have HES:=qh eS
 have HEW:=qh eW
 clear hT hm hs hw hi69 z69 s69 y69 hi36 z36 s36 y36 hS hW eS eW
 unfold Cfg.cells at *
 go_enter Tryz.func43,Tryz.ntmps43
 go_wp2_with (first
  | (go_at_call 42;((with_reducible refine HM.out.mono ?_);rintro e w1 ⟨rfl,hg1⟩;obtain ⟨c0,c1,c2,c3,c4,c5,c6,c7⟩:=HA.out.grown hg1;rw [HES.out] at c1;rw [HEW.out] at c2;have HA1:=qh (HA.out.grown hg1);have HG1:=qh (grown_trans HG0.out hg1);clear hg1))
  | ((with_reducible refine make_many 147 149 i69 (.agg #[.slice none 0 0,.int .u8 0]) 10 10 S 2 Tryz.underlying147 HI69.out HZ69.out HS69.out ?_ ?_ ?_ ?_ ?_ ?_ ?_);(rfl);(decide);(rfl);(rfl);(rw [HY69.out];omega);(omega);intro cs hcs hz;have HCS:=qh (And.intro hcs hz);clear hcs hz))
 obtain ⟨G,hG⟩:∃ G,G=w1.heap.size:=⟨_,rfl⟩
 have HK0:Hid (Mak w1 (w1.alloc (.cells cs 149)) G [] S W):=qh ⟨grown_alloc (grown_refl _ _) _,by omega,⟨cs,by rw [hG];exact heap_alloc_new _ _,HCS.out.1,fun j q hq=>by simp at hq,fun j hj=>HCS.out.2 j 1 _ hj rfl⟩,fun j q hq=>by simp at hq,fun i j q hq=>by simp at hq⟩
 rw [← hG]
 clear hG c0 c1 c2 c3 c4 c5 c6 c7
 go_loopw [14] (fun i wr=>∃ (k:Nat) (gr:List Nat),k ≤ S∧i = .int .i64 (k:Int)∧gr.length=k∧Mak w1 wr G gr S W) (fun i _=>S - (intOf i).toNat)
 case atStart=>exact ⟨0,[],Nat.zero_le _,rfl,rfl,HK0.out⟩
 case round=>
  obtain ⟨k,gr,hk,rfl,hgl,hmk⟩:=hrel
  have HMK:=qh hmk
  have HA2:=qh (HA1.out.grown hmk.grown)
  have HGL:=qh hgl
  clear HK0 hmk
  by_cases hlt:k < S
  ·have HB:Hid (∀ (cs:Array Value),cs.size=W * 18→(∀ (j k:Nat) v,j < W→(la zl)[k]?=some v→cs[j * 18 + k]?=some v)→((wr.alloc (.cells cs 50)).frozen? ⟨G,k * 2,none⟩=false∧(∃ u,(wr.alloc (.cells cs 50)).cell? ⟨G,k * 2,none⟩=some u))∧Mak w1 ((wr.alloc (.cells cs 50)).setCell ⟨G,k * 2,none⟩ (.slice (some ⟨wr.heap.size,0,none⟩) W W)) G (gr ++ [wr.heap.size]) S W):=qh fun cs h1 h2=>by
    have h3:=HMK.out.put (by omega) cs h1 h2
    rw [hgl] at h3
    exact ⟨⟨h3.1,h3.2.1⟩,h3.2.2⟩
   obtain ⟨c0,c1,c2,c3,c4,c5,c6,c7⟩:=HA2.out
   rw [HEW.out] at c2
   clear hgl
   go_wp2_with (first
    | ((with_reducible refine make_many 128 50 i36 (.agg (la zl)) 20 20 W 18 Tryz.underlying128 HI36.out HZ36.out HS36.out ?_ ?_ ?_ ?_ ?_ ?_ ?_);(rfl);(decide);(rfl);(rfl);(rw [HY36.out];omega);(omega);intro cs2 hcs hz;have HM3:=qh (HB.out cs2 hcs hz).2;obtain ⟨f0,u0,d0⟩:=(HB.out cs2 hcs hz).1;clear hcs hz))
   go_roundw
   case rel=>exact ⟨k + 1,gr ++ [wr.heap.size],by omega,by go_num,by rw [List.length_append,HGL.out];rfl,HM3.out⟩
   case measure=>simp [intOf];omega
  ·obtain rfl:k=S:=by omega
   obtain ⟨c0,c1,c2,c3,c4,c5,c6,c7⟩:=HA2.out
   have HF:=qh (HFIN.out w1 wr G gr HMK.out HGL.out)
   clear hgl
   go_wp2_with fail
   go_ret2
   refine ⟨_,rfl,HF.out,grown_alloc (grown_trans HG1.out HMK.out.grown) _,fun k' hk'=>?_⟩
   have h1:=HG1.out.size
   have h2:=HMK.out.grown.size
   have h3:=HMK.out.new
   rcases hk' with e1 | e1 | ⟨q,hq,rfl⟩
   ·have e2:k'=wr.heap.size:=e1
    omega
   ·have e2:k'=G:=e1
    omega
   ·simp at hq
    obtain ⟨a,ha,rfl⟩:=hq
    obtain ⟨j,hj⟩:=List.getElem?_of_mem ha
    have:=(HMK.out.rows j a hj).1
    show w.heap.size ≤ a;omega
end Go.Proofs.YtcoimipgilkmbaaGreatDoor.kk
namespace Go.Proofs.YtcoimipgilkmbaaGreatDoor.kk
set_option linter.unusedVariables false
set_option linter.unusedSimpArgs false
set_option maxRecDepth 1000000
set_option maxHeartbeats 16000000
open Go Go.ChangeShapes Go.WideShapes Go.ChangeAt Go.RowKit Go.Shelf
open Go.Proofs.YtcoimipgilkmbaaGreatDoor.tt (hb Cfg grown_refl grown_drew grown_trans grown_alloc)
theorem append_new {P:Program} {w:World} {ops:Array Oper} {rest:List Oper} {a:Act} {Q:Exit→Act→World→Prop} {dst:Option Tmp} {ty:TypeId} {pos:String} {after:Array Edge}
  (t e:TypeId) (i:TypeInfo) (z:Value) (size bytes:Nat) (s x:Tmp) (ht:P.underlying t=some (.slice e)) (hi:P.info? e=some i) (hz:i.zero=some z) (hsz:i.size=size) (hby:i.bytes=bytes)
  (B g n cap:Nat) (hs:a.eval (.tmp s) = .slice (some ⟨B,0,none⟩) 0 0) (hx:a.eval (.tmp x) = .slice (some ⟨g,0,none⟩) n cap) (news:List Value) (hl:news.length=n * size) (hr:w.rangeAt g 0 news) (h1:∀ u ∈ news,u.oneCell'=true) (hn:0 < n) (hn16:n ≤ 16) (hb:bytes ≤ 1024)
  (h:∀ (cap':Nat) (cs:Array Value),(∀ (j:Nat) v,news[j]?=some v→cs[j]?=some v)→wpList P ops Q rest (a.put dst (.slice (some ⟨w.heap.size,0,none⟩) n cap')) (w.drew.alloc (.cells cs e))) :
  wpList P ops Q (⟨dst,.call { callee:= .builtin .append,args:=#[.tmp s,.tmp x],argTypes:=#[t,t] },ty,pos,after,none⟩ :: rest) a w:=by
 refine wpList_plain rfl fun K hK'=>?_
 have hsrc:Src P i.size t (.slice (some ⟨g,0,none⟩) n cap) n news w:=Src.ofSlice w ht ⟨g,0,none⟩ n cap news (by rw [hsz];exact hl) (fun j u hu=>by rw [add_lit];exact hr j u hu) h1
 have hfit:n * bytes ≤ 140737488355328:=Nat.le_trans (Nat.mul_le_mul hn16 hb) (by omega)
 have hrun:=run_append_grow_src (P:=P) w t t ty e i z ht hi hz (some ⟨B,0,none⟩) 0 0 [] (run_firstCells_some w.drew i.size 0 ⟨B,0,none⟩ 0 0 [] (by simp) (fun j u hu=>by simp at hu)) (.slice (some ⟨g,0,none⟩) n cap) n news hsrc (by omega) (by omega) (growslice_fits (by omega) (by rw [hby,Nat.zero_add];exact hfit))
 rw [Nat.zero_add] at hrun
 unfold Oper.wp execOp
 simp only [resolve,invoke,builtin,Sem.run_bind,Sem.run_pure,Result.andThen_ok,List.map_toArray,List.map_cons,List.map_nil,hs,hx,hrun]
 refine hK' _ _ (h _ _ fun j v hv=>?_)
 rw [Array.getElem?_append_left (by simpa using (List.getElem?_eq_some_iff.1 hv).1)]
 simpa using hv
def flat (ls:List Ln):List Value:=ls.flatMap ln
theorem flat_len:∀ ls,(flat ls).length=ls.length * 18
 | []=>rfl
 | l :: r=>by
  have:=flat_len r
  unfold flat at this ⊢
  rw [List.flatMap_cons,List.length_append,this,ln_len,List.length_cons,Nat.add_mul];omega
theorem flat_at:∀ (ls:List Ln) (j:Nat) (l:Ln) (i:Nat) (v:Value),ls[j]?=some l→(ln l)[i]?=some v→(flat ls)[j * 18 + i]?=some v
 | [],j,l,i,v,h,_=>by simp at h
 | l0 :: r,0,l,i,v,h,hv=>by
  simp at h;subst h
  unfold flat
  rw [List.flatMap_cons,List.getElem?_append_left (by have:=(List.getElem?_eq_some_iff.1 hv).1;omega),Nat.zero_mul,Nat.zero_add];exact hv
 | l0 :: r,j + 1,l,i,v,h,hv=>by
  have:=flat_at r j l i v (by simpa using h) hv
  unfold flat at this ⊢
  rw [List.flatMap_cons,List.getElem?_append_right (by rw [ln_len];omega),ln_len,show (j + 1) * 18 + i - 18=j * 18 + i by omega];exact this
theorem flat_one (ls:List Ln):∀ v ∈ flat ls,v.oneCell'=true:=fun v hv=>by
 obtain ⟨l,_,h⟩:=List.mem_flatMap.1 hv
 exact ln_one l v h
theorem flat_inv (ls:List Ln) (k:Nat) (v:Value) (h:(flat ls)[k]?=some v):∃ j i l,k=j * 18 + i∧ls[j]?=some l∧(ln l)[i]?=some v:=by
 have hk:=(List.getElem?_eq_some_iff.1 h).1
 rw [flat_len] at hk
 have hj:k / 18 < ls.length:=by omega
 obtain ⟨l,hl⟩:∃ l,ls[k / 18]?=some l:=⟨_,List.getElem?_eq_getElem hj⟩
 obtain ⟨u,hu⟩:∃ u,(ln l)[k % 18]?=some u:=⟨_,List.getElem?_eq_getElem (by rw [ln_len];omega)⟩
 have:=flat_at ls _ l _ u hl hu
 rw [show k / 18 * 18 + k % 18=k by omega,h] at this
 cases this
 exact ⟨_,_,l,by omega,hl,hu⟩
theorem RowAt.flat {w:World} {g:Nat} {ls:List Ln} (h:RowAt w g ls):w.rangeAt g 0 (flat ls):=fun k v hv=>by
 obtain ⟨j,i,l,rfl,hl,hi⟩:=flat_inv ls k v hv
 rw [Nat.zero_add];exact h.at_ j l hl i v hi
theorem q53 (w:World) (a:Option Addr) (n c n' c':Nat):(binOp .eql 128 (.slice a n c) (.slice none n' c')).run Tryz.prog w = .ok (.bool a.isNone) w:=Lib.run_eql_slice_nil w _ _ a n c n' c' Tryz.underlying128
theorem q67 (w:World) (a:Option Addr) (n c n' c':Nat):(binOp .eql 147 (.slice a n c) (.slice none n' c')).run Tryz.prog w = .ok (.bool a.isNone) w:=Lib.run_eql_slice_nil w _ _ a n c n' c' Tryz.underlying147
theorem two_new (w:World) (t:TypeId) (cs:Array Value):((w.alloc (.cells #[] t)).alloc (.cells cs t)).drew.heap[w.heap.size + 1]?=some (.cells cs t (0,0)):=by
 have h:=heap_alloc_new (w.alloc (.cells #[] t)) (.cells cs t)
 rw [World.size_alloc] at h
 exact h
theorem clone_lines (g cap n:Nat) (ls:List Ln) (w:World) (hn:n=ls.length) (h1:1 ≤ n) (h4:n ≤ 4) (hR:RowAt w g ls) :
  Calls Tryz.prog 103 #[.slice (some ⟨g,0,none⟩) n cap] w fun e w'=>∃ g' cap',e = .returned (.slice (some ⟨g',0,none⟩) n cap')∧RowAt w' g' ls∧w.grownBy w' none∧w.heap.size ≤ g':=by
 obtain ⟨i36,hi36,hii⟩:=Option.map_eq_some_iff.1 info36z
 simp at hii
 obtain ⟨z36,s36,y36⟩:=hii
 have HI36:=qh hi36
 have HZ36:=qh z36
 have HS36:=qh s36
 have HY36:=qh y36
 have HR:Hid ((w.alloc (.cells #[] 50)).rangeAt g 0 (flat ls)):=qh (hR.grown (grown_alloc (grown_refl w none) _) (by simp)).flat
 have HL:Hid ((flat ls).length=n * 18):=qh (by rw [hn];exact flat_len ls)
 have hq:=q53
 clear hi36 z36 s36 y36 hR hn
 go_enter Tryz.func103,Tryz.ntmps103
 go_wp2_with ((with_reducible refine append_new 128 50 i36 (.agg (la zl)) 18 80 5 6 Tryz.underlying128 HI36.out HZ36.out HS36.out HY36.out w.heap.size g n cap ?_ ?_ (flat ls) HL.out HR.out (flat_one ls) ?_ ?_ ?_ ?_);(rfl);(rfl);(omega);(omega);(decide);(intro cap' cs hcs;have HCS:=qh hcs;clear hcs))
 go_ret
 refine ⟨_,cap',rfl,⟨⟨cs,two_new _ _ _⟩,fun j l hl i v hv=>?_⟩,grown_drew (grown_alloc (grown_alloc (grown_refl _ _) _) _),by omega⟩
 exact (cell_of_row _ _ _ _ _ _ (two_new _ _ _)).trans (HCS.out _ v (flat_at ls j l i v hl hv))
theorem clone_sets (g cap n:Nat) (vs:List Value) (w:World) (hn:vs.length=n * 2) (h1:1 ≤ n) (h16:n ≤ 16) (hR:w.rangeAt g 0 vs) (hone:∀ u ∈ vs,u.oneCell'=true) :
  Calls Tryz.prog 102 #[.slice (some ⟨g,0,none⟩) n cap] w fun e w'=>∃ g' cap' cs,e = .returned (.slice (some ⟨g',0,none⟩) n cap')∧w'.heap[g']?=some (.cells cs 149 (0,0))∧(∀ (j:Nat) v,vs[j]?=some v→cs[j]?=some v)∧w.grownBy w' none∧w.heap.size ≤ g':=by
 obtain ⟨i69,hi69,hii⟩:=Option.map_eq_some_iff.1 info69
 simp at hii
 obtain ⟨z69,s69,y69⟩:=hii
 have HI69:=qh hi69
 have HZ69:=qh z69
 have HS69:=qh s69
 have HY69:=qh y69
 have HR:Hid ((w.alloc (.cells #[] 149)).rangeAt g 0 vs):=qh (range_grown hR (grown_alloc (grown_refl w none) _) (by simp))
 have HL:=qh hn
 have HO:=qh hone
 have hq:=q67
 clear hi69 z69 s69 y69 hR hn hone
 go_enter Tryz.func102,Tryz.ntmps102
 go_wp2_with ((with_reducible refine append_new 147 149 i69 (.agg #[.slice none 0 0,.int .u8 0]) 2 32 5 6 Tryz.underlying147 HI69.out HZ69.out HS69.out HY69.out w.heap.size g n cap ?_ ?_ vs HL.out HR.out HO.out ?_ ?_ ?_ ?_);(rfl);(rfl);(omega);(omega);(decide);(intro cap' cs hcs;have HCS:=qh hcs;clear hcs))
 go_ret
 exact ⟨_,cap',cs,rfl,two_new _ _ _,HCS.out,grown_drew (grown_alloc (grown_alloc (grown_refl _ _) _) _),by omega⟩
theorem copy_nil (w:World):Calls Tryz.prog 60 #[.pointer none] w fun e w'=>e = .returned (.pointer none)∧w.grownBy w' none:=by
 go_enter Tryz.func60,Tryz.ntmps60
 go_wp2
 go_ret
 exact ⟨rfl,grown_refl _ _⟩
def setv (p:St) (q:Nat × Nat):List Value:=[.slice (some ⟨q.1,0,none⟩) p.1.length q.2,.int .u8 (p.2:Int)]
def sflat:List St→List (Nat × Nat)→List Value
 | p :: ps,q :: qs=>setv p q ++ sflat ps qs
 | _,_=>[]
theorem sflat_len:∀ (ss:List St) (gr:List (Nat × Nat)),gr.length=ss.length→(sflat ss gr).length=ss.length * 2
 | [],[],_=>rfl
 | p :: ps,q :: qs,h=>by
  have:=sflat_len ps qs (by simpa using h)
  rw [sflat,List.length_append,this,List.length_cons];simp [setv];omega
 | [],_ :: _,h=>by simp at h
 | _ :: _,[],h=>by simp at h
theorem sflat_at:∀ (ss:List St) (gr:List (Nat × Nat)) (j:Nat) p q,ss[j]?=some p→gr[j]?=some q→(sflat ss gr)[j * 2]?=some (.slice (some ⟨q.1,0,none⟩) p.1.length q.2)∧(sflat ss gr)[j * 2 + 1]?=some (.int .u8 (p.2:Int))
 | [],_,j,p,q,h,_=>by simp at h
 | _ :: _,[],j,p,q,_,h=>by simp at h
 | p0 :: ps,q0 :: qs,0,p,q,h,h'=>by
  simp at h h';subst h h'
  exact ⟨rfl,rfl⟩
 | p0 :: ps,q0 :: qs,j + 1,p,q,h,h'=>by
  have:=sflat_at ps qs j p q (by simpa using h) (by simpa using h')
  rw [sflat,show (j + 1) * 2=j * 2 + 2 by omega]
  exact ⟨by rw [List.getElem?_append_right (by simp [setv])];simpa [setv] using this.1,by rw [show j * 2 + 2 + 1=j * 2 + 1 + 2 by omega,List.getElem?_append_right (by simp [setv])];simpa [setv] using this.2⟩
theorem sflat_one:∀ (ss:List St) (gr:List (Nat × Nat)),∀ v ∈ sflat ss gr,v.oneCell'=true
 | [],_,v,h=>by simp [sflat] at h
 | _ :: _,[],v,h=>by simp [sflat] at h
 | p :: ps,q :: qs,v,h=>by
  rw [sflat,List.mem_append] at h
  rcases h with h | h
  ·simp [setv] at h
   rcases h with rfl | rfl <;> rfl
  ·exact sflat_one ps qs v h
theorem sflat_range {w:World} {g:Nat}:∀ (ss:List St) (gr:List (Nat × Nat)) (o:Nat),(∀ (j:Nat) p q,ss[j]?=some p→gr[j]?=some q→w.cell? ⟨g,o + j * 2,none⟩=some (.slice (some ⟨q.1,0,none⟩) p.1.length q.2)∧w.cell? ⟨g,o + j * 2 + 1,none⟩=some (.int .u8 (p.2:Int)))→w.rangeAt g o (sflat ss gr)
 | [],_,o,_=>fun j v hv=>by simp [sflat] at hv
 | _ :: _,[],o,_=>fun j v hv=>by simp [sflat] at hv
 | p :: ps,q :: qs,o,h=>fun j v hv=>by
  rw [sflat] at hv
  have h0:=h 0 p q rfl rfl
  match j,hv with
  | 0,hv=>simp [setv] at hv;subst hv;simpa using h0.1
  | 1,hv=>simp [setv] at hv;subst hv;simpa using h0.2
  | j + 2,hv=>
   rw [List.getElem?_append_right (by simp [setv])] at hv
   have:=sflat_range ps qs (o + 2) (fun j p' q' hp hq=>by
    have:=h (j + 1) p' q' (by simpa using hp) (by simpa using hq)
    rw [show o + 2 + j * 2=o + (j + 1) * 2 by omega];exact this) j v (by simpa [setv] using hv)
   rw [show o + (j + 2)=o + 2 + j by omega];exact this
structure Cop (w0 wr:World) (K:Loc) (c:Cfg) (ss:List St) (G:Nat) (gr:List (Nat × Nat)):Prop where
 cac:Cac wr K c ss
 grown:w0.grownBy wr none
 new:w0.heap.size ≤ G
 blk:∃ cur,wr.heap[G]?=some (.cells cur 149 (0,0))∧(∀ (j:Nat) p q,ss[j]?=some p→gr[j]?=some q→cur[j * 2]?=some (.slice (some ⟨q.1,0,none⟩) p.1.length q.2)) ∧
  (∀ (j:Nat) p q,gr.length ≤ j→ss[j]?=some p→K.gr[j]?=some q→cur[j * 2]?=some (.slice (some ⟨q.1,0,none⟩) p.1.length q.2))∧(∀ (j:Nat) p,ss[j]?=some p→cur[j * 2 + 1]?=some (.int .u8 (p.2:Int)))
 rows:∀ (j:Nat) p q,ss[j]?=some p→gr[j]?=some q→G < q.1∧RowAt wr q.1 p.1
 inj:∀ (i j:Nat) q q',gr[i]?=some q→gr[j]?=some q'→q.1=q'.1→i=j
 le:gr.length ≤ ss.length
 old:∀ k,K.any k→k < w0.heap.size
theorem Cop.put {w0 wr w':World} {K:Loc} {c:Cfg} {ss:List St} {G:Nat} {gr:List (Nat × Nat)} (h:Cop w0 wr K c ss G gr) {p:St} (hp:ss[gr.length]?=some p) {g' cap':Nat} (hg:wr.grownBy w' none) (hr:RowAt w' g' p.1) (hg':wr.heap.size ≤ g') :
  w'.frozen? ⟨G,gr.length * 2,none⟩=false∧(∃ u,w'.cell? ⟨G,gr.length * 2,none⟩=some u)∧Cop w0 (w'.setCell ⟨G,gr.length * 2,none⟩ (.slice (some ⟨g',0,none⟩) p.1.length cap')) K c ss G (gr ++ [(g',cap')]):=by
 obtain ⟨cur,hG,h3,h3',h4⟩:=h.blk
 have hltG:=lt_of hG
 have hG':w'.heap[G]?=some (.cells cur 149 (0,0)):=(hg.block _ hltG (by simp)).trans hG
 have hgr:w0.grownBy w' none:=grown_trans h.grown hg
 have hset:=grown_setCell w' G (gr.length * 2) (.slice (some ⟨g',0,none⟩) p.1.length cap')
 have hlt:gr.length < ss.length:=(List.getElem?_eq_some_iff.1 hp).1
 obtain ⟨q0,hq0⟩:∃ q,K.gr[gr.length]?=some q:=⟨_,List.getElem?_eq_getElem (by rw [h.cac.grl];exact hlt)⟩
 have hc0:=h3' gr.length p q0 (Nat.le_refl _) hp hq0
 have hcl:gr.length * 2 < cur.size:=(Array.getElem?_eq_some_iff.1 hc0).1
 have happ:∀ (j:Nat) q,(gr ++ [(g',cap')])[j]?=some q→(j=gr.length∧q=(g',cap')) ∨ (j < gr.length∧gr[j]?=some q):=fun j q hq=>by
  by_cases hjl:j < gr.length
  ·rw [List.getElem?_append_left hjl] at hq
   exact .inr ⟨hjl,hq⟩
  ·have hlt:=(List.getElem?_eq_some_iff.1 hq).1
   simp at hlt
   obtain rfl:j=gr.length:=by omega
   rw [List.getElem?_append_right (Nat.le_refl _)] at hq
   simp at hq
   exact .inl ⟨rfl,hq.symm⟩
 have hcur:∀ o v,o ≠ gr.length * 2→cur[o]?=some v→(cur.set! (gr.length * 2) (.slice (some ⟨g',0,none⟩) p.1.length cap'))[o]?=some v:=fun o v ho hv=>by
  rw [Array.set!_eq_setIfInBounds,Array.getElem?_setIfInBounds,if_neg (fun e=>ho e.symm)];exact hv
 have hb2:∀ k,k < wr.heap.size→k ≠ G→(w'.setCell ⟨G,gr.length * 2,none⟩ (.slice (some ⟨g',0,none⟩) p.1.length cap')).heap[k]?=wr.heap[k]?:=fun k hk hkG=>
  (hset.block k (Nat.lt_of_lt_of_le hk hg.size) (fun e=>hkG (Option.some.inj e))).trans (hg.block k hk (by simp))
 refine ⟨frozen_of_row _ _ _ _ _ hG',⟨_,(cell_of_row _ _ _ _ _ _ hG').trans hc0⟩,⟨?_,?_,h.new,⟨_,blk_setCell _ hG',fun j p' q hp' hq=>?_,fun j p' q hj hp' hq=>?_,fun j p' hp'=>?_⟩,fun j p' q hp' hq=>?_,fun i j q q' hi hj e=>?_,by simp;omega,h.old⟩⟩
 ·exact h.cac.same fun k hk=>hb2 k (h.cac.lt hk) (by have:=h.old k hk;have:=h.new;omega)
 ·exact ⟨hset.os.trans hgr.os,hset.tape.trans hgr.tape,hset.output.trans hgr.output,Nat.le_trans hgr.size hset.size,fun k hk hn=>(hset.block k (Nat.lt_of_lt_of_le hk hgr.size) (by have:=h.new;simp;omega)).trans (hgr.block k hk hn)⟩
 ·rcases happ j q hq with ⟨rfl,rfl⟩ | ⟨hj,hq⟩
  ·rw [hp] at hp';cases hp'
   rw [Array.set!_eq_setIfInBounds,Array.getElem?_setIfInBounds,if_pos rfl,if_pos hcl]
  ·exact hcur _ _ (by omega) (h3 j p' q hp' hq)
 ·simp at hj
  exact hcur _ _ (by omega) (h3' j p' q (by omega) hp' hq)
 ·exact hcur _ _ (by omega) (h4 j p' hp')
 ·rcases happ j q hq with ⟨rfl,rfl⟩ | ⟨hj,hq⟩
  ·rw [hp] at hp';cases hp'
   exact ⟨by show G < g';omega,hr.same (hset.block g' hr.lt (fun e=>by have:=Option.some.inj e;omega))⟩
  ·obtain ⟨r1,r2⟩:=h.rows j p' q hp' hq
   exact ⟨r1,r2.same (hb2 _ r2.lt (by omega))⟩
 ·have hlr:∀ (j:Nat) q,gr[j]?=some q→q.1 < wr.heap.size:=fun j q hq=>by
   obtain ⟨p',hp'⟩:∃ p',ss[j]?=some p':=⟨_,List.getElem?_eq_getElem (by have:=(List.getElem?_eq_some_iff.1 hq).1;have:=h.le;omega)⟩
   exact (h.rows j p' q hp' hq).2.lt
  rcases happ i q hi with ⟨rfl,rfl⟩ | ⟨hi',hi⟩ <;> rcases happ j q' hj with ⟨rfl,rfl⟩ | ⟨hj',hj⟩
  ·rfl
  ·have:=hlr j q' hj
   have e':g'=q'.1:=e
   omega
  ·have:=hlr i q hi
   have e':q.1=g':=e
   omega
  ·exact h.inj i j q q' hi hj e
theorem Cop.seen {w0 wr:World} {K:Loc} {c:Cfg} {ss:List St} {G:Nat} {gr:List (Nat × Nat)} (h:Cop w0 wr K c ss G gr) {k:Nat} (hk:gr.length=k) (hlt:k < ss.length):∃ (p:St) (q:Nat × Nat),ss[k]?=some p∧wr.cell? ⟨G,k * 2,none⟩=some (.slice (some ⟨q.1,0,none⟩) p.1.length q.2)∧RowAt wr q.1 p.1∧1 ≤ p.1.length∧p.1.length ≤ 4:=by
 obtain ⟨cur,hG,h3,h3',h4⟩:=h.blk
 obtain ⟨p,hp⟩:∃ p,ss[k]?=some p:=⟨_,List.getElem?_eq_getElem hlt⟩
 obtain ⟨q,hq,hS⟩:=h.cac.seen hp
 have:=h.cac.wid4 (List.mem_of_getElem? hp)
 exact ⟨p,q,hp,(cell_of_row _ _ _ _ _ _ hG).trans (h3' k p q (by omega) hp hq),hS.row,this.2,this.1⟩
theorem Cop.done {w0 wr:World} {K:Loc} {c:Cfg} {ss:List St} {G cap:Nat} {gr:List (Nat × Nat)} (h:Cop w0 wr K c ss G gr) (hl:gr.length=ss.length) :
  Cac (wr.alloc (.cells (c.cells ++ #[.slice (some ⟨G,0,none⟩) ss.length cap]) 151)) ⟨wr.heap.size,G,cap,gr⟩ c ss:=by
 obtain ⟨cur,hG,h3,h3',h4⟩:=h.blk
 have hG':(wr.alloc (.cells (c.cells ++ #[.slice (some ⟨G,0,none⟩) ss.length cap]) 151)).heap[G]?=some (.cells cur 149 (0,0)):=(Below.heap_alloc _ _ _ (lt_of hG)).trans hG
 refine ⟨heap_alloc_new _ _,⟨cur,hG'⟩,hl,fun i p q hp hq=>?_,fun i p hp=>?_,fun i p q hp hq=>?_,h.inj,h.cac.len,h.cac.wid,h.cac.mlt,h.cac.may⟩
 ·exact (cell_of_row _ _ _ _ _ _ hG').trans (h3 i p q hp hq)
 ·exact (cell_of_row _ _ _ _ _ _ hG').trans (h4 i p hp)
 ·have hr:=(h.rows i p q hp hq).2
  exact hr.same (Below.heap_alloc _ _ _ hr.lt)
theorem copy_any (K:Loc) (c:Cfg) (ss:List St) (w:World) (hC:Cac w K c ss) :
  Calls Tryz.prog 60 #[.pointer (some ⟨K.b,0,none⟩)] w fun e w'=>∃ K':Loc,e = .returned (.pointer (some ⟨K'.b,0,none⟩))∧Cac w' K' c ss∧w.grownBy w' none∧∀ k,K'.any k→w.heap.size ≤ k:=by
 have hs:=hC.may.sets
 have hlen:=hC.len
 have h16:1 ≤ ss.length∧ss.length ≤ 16:=by omega
 have HCS:=qh (clone_sets K.gs K.cap ss.length (sflat ss K.gr) w (sflat_len _ _ hC.grl) h16.1 h16.2 (sflat_range ss K.gr 0 fun j p q hp hq=>by rw [Nat.zero_add];exact ⟨hC.row j p q hp hq,hC.mem j p hp⟩) (sflat_one _ _))
 have c8:=hC.slice
 have HC:=qh hC
 have HSTART:Hid (∀ w1 g' cs,w1.heap[g']?=some (.cells cs 149 (0,0))→(∀ (j:Nat) v,(sflat ss K.gr)[j]?=some v→cs[j]?=some v)→w.grownBy w1 none→w.heap.size ≤ g'→Cop w w1 K c ss g' []):=qh fun w1 g' cs h1 h2 h3 h4=>
  ⟨hC.grown h3,h3,h4,⟨cs,h1,fun j p q _ hq=>by simp at hq,fun j p q _ hp hq=>h2 _ _ (sflat_at ss K.gr j p q hp hq).1,fun j p hp=>by
   obtain ⟨q,hq⟩:∃ q,K.gr[j]?=some q:=⟨_,List.getElem?_eq_getElem (by rw [hC.grl];exact (List.getElem?_eq_some_iff.1 hp).1)⟩
   exact h2 _ _ (sflat_at ss K.gr j p q hp hq).2⟩,fun j p q _ hq=>by simp at hq,fun i j q q' hq=>by simp at hq,Nat.zero_le _,fun k hk=>hC.lt hk⟩
 obtain ⟨S,hS⟩:∃ S,S=ss.length:=⟨_,rfl⟩
 have HS:=qh hS
 rw [← hS] at h16 HCS c8
 clear hs hlen hC hS
 go_enter Tryz.func60,Tryz.ntmps60
 go_wp2_with (first
  | (go_at_call 102;((with_reducible refine HCS.out.mono ?_);rintro e w1 ⟨g',cap',cs,rfl,h1,h2,h3,h4⟩;have HCOP:=qh (HSTART.out w1 g' cs h1 h2 h3 h4);clear h1 h2 h3 h4 c8)))
 go_loopw [14] (fun i wr=>∃ (k:Nat) (gr:List (Nat × Nat)),k ≤ S∧i = .int .i64 (k:Int)∧gr.length=k∧Cop w wr K c ss g' gr) (fun i _=>S - (intOf i).toNat)
 case atStart=>exact ⟨0,[],Nat.zero_le _,rfl,rfl,HCOP.out⟩
 case round=>
  obtain ⟨k,gr,hk,rfl,hgl,hcp⟩:=hrel
  have HGL:=qh hgl
  have HCP:=qh hcp
  clear HCOP
  by_cases hlt:k < S
  ·obtain ⟨p,q,hp,c1,hr,hp1,hp4⟩:=hcp.seen hgl (by have:=HS.out;omega)
   have HCL:=qh (clone_lines q.1 q.2 p.1.length p.1 wr rfl hp1 hp4 hr)
   have HPUT:Hid (∀ w' g2 cap2,RowAt w' g2 p.1→wr.grownBy w' none→wr.heap.size ≤ g2→(w'.frozen? ⟨g',k * 2,none⟩=false∧(∃ u,w'.cell? ⟨g',k * 2,none⟩=some u))∧Cop w (w'.setCell ⟨g',k * 2,none⟩ (.slice (some ⟨g2,0,none⟩) p.1.length cap2)) K c ss g' (gr ++ [(g2,cap2)])):=qh fun w' g2 cap2 h1 h2 h3=>by
    have:=hcp.put (p:=p) (cap':=cap2) (by rw [hgl];exact hp) h2 h1 h3
    rw [hgl] at this
    exact ⟨⟨this.1,this.2.1⟩,this.2.2⟩
   generalize p.1.length=n at *
   clear hgl hcp hp hr
   go_wp2_with (first
    | (go_at_call 103;((with_reducible refine HCL.out.mono ?_);rintro e w3 ⟨g2,cap2,rfl,h1,h2,h3⟩;have HP3:=qh (HPUT.out w3 g2 cap2 h1 h2 h3).2;obtain ⟨f0,u0,d0⟩:=(HPUT.out w3 g2 cap2 h1 h2 h3).1;clear h1 h2 h3)))
   go_roundw
   case rel=>exact ⟨k + 1,_,by omega,by go_num,by rw [List.length_append,HGL.out];rfl,HP3.out⟩
   case measure=>simp [intOf];omega
  ·obtain rfl:k=S:=by omega
   obtain ⟨c0,c1,c2,c3,c4,c5,c6,c7⟩:=hcp.cac.cfg
   have HD:=qh (hcp.done (cap:=cap') (hgl.trans HS.out))
   rw [← HS.out] at HD
   clear hgl hcp hlt hk
   unfold Cfg.cells at HD
   go_wp2_with fail
   go_ret
   refine ⟨_,rfl,HD.out,grown_alloc HCP.out.grown _,fun k' hk'=>?_⟩
   have h2:=HCP.out.grown.size
   have h3:=HCP.out.new
   rcases hk' with e1 | e1 | ⟨q,hq,rfl⟩
   ·have e2:k'=wr.heap.size:=e1
    omega
   ·have e2:k'=g':=e1
    omega
   ·obtain ⟨j,hj⟩:=List.getElem?_of_mem hq
    have hj':gr[j]?=some q:=hj
    obtain ⟨p,hp⟩:∃ p,ss[j]?=some p:=⟨_,List.getElem?_eq_getElem (by have:=(List.getElem?_eq_some_iff.1 hj').1;have:=HCP.out.le;omega)⟩
    have:=(HCP.out.rows j p q hp hj').1
    omega
end Go.Proofs.YtcoimipgilkmbaaGreatDoor.kk
