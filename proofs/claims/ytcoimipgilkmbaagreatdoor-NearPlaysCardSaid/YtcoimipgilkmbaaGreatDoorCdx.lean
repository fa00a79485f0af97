/-
  All lines of a cache in one row, as the document's own cache has them: where a block's line stands, where one is free, what a store makes of it. No condition but what each theorem names.
  What the document's own Set, Place, Free, Used answer: contracts. Condition: the bounds that each theorem names.
  What victim's functions answer: contracts (as in stage 6, at this seat's numbers). No condition but the bounds that each theorem names.
  What the document's own Free, Used answer, and what its cache is behind them: contracts. Condition: the bounds that each theorem names.
  What the document's own Find, Use, Drop answer, and what its cache is behind them: contracts. Condition: that a line stands in its block's set alone.
  What the document's own Find, Turn, Write answer, and what its cache is behind them: contracts. Condition: that a line stands in its block's set alone.
  What the document's own May (of a line), Put answer, and what its cache is behind it: contracts. Condition: that a line stands in its block's set alone.
  What the document's own Goes answers: contracts. Condition: that a line stands in its block's set alone.
  What the document's own Goes answers of a set that is full: a contract. Condition: that a line stands in its block's set alone.
  What the document's New answers, and the cache that it makes: contracts. Condition: none but what each theorem names.
-/
import Derived.Test.YtcoimipgilkmbaaGreatDoorTl
import Derived.Test.YtcoimipgilkmbaaGreatDoorCaz
import Derived.Test.YtcoimipgilkmbaaGreatDoorCax
namespace Go.Proofs.YtcoimipgilkmbaaGreatDoor.kk
set_option linter.unusedVariables false
set_option linter.unusedSimpArgs false
set_option maxRecDepth 1000000
set_option maxHeartbeats 16000000
open Go Go.ChangeShapes Go.WideShapes Go.ChangeAt Go.RowKit Go.Shelf
open Go.Proofs.YtcoimipgilkmbaaGreatDoor.tt (hb Cfg CfgAt row)
def rowAll (ss:List St):List Ln:=ss.flatMap (·.1)
theorem rowAll_cons (p:St) (ss:List St):rowAll (p :: ss)=p.1 ++ rowAll ss:=rfl
section
variable {W:Nat}
theorem rowAll_len:∀ {ss:List St},(∀ p ∈ ss,p.1.length=W)→(rowAll ss).length=ss.length * W
 | [],_=>by simp [rowAll]
 | p :: r,h=>by
  rw [rowAll_cons,List.length_append,rowAll_len (fun q hq=>h q (by simp [hq])),h p (by simp),List.length_cons,Nat.add_one_mul]
  omega
theorem rowAll_get:∀ {ss:List St},(∀ p ∈ ss,p.1.length=W)→∀ {s k:Nat} {p:St} {l:Ln},ss[s]?=some p→p.1[k]?=some l→(rowAll ss)[s * W + k]?=some l
 | [],_,s,k,p,l,hs,_=>by simp at hs
 | x :: r,h,0,k,p,l,hs,hk=>by
  simp at hs
  subst hs
  rw [rowAll_cons,Nat.zero_mul,Nat.zero_add,List.getElem?_append_left (List.getElem?_eq_some_iff.1 hk).1]
  exact hk
 | x :: r,h,s + 1,k,p,l,hs,hk=>by
  have hx:=h x (by simp)
  rw [rowAll_cons,List.getElem?_append_right (by rw [hx,Nat.add_one_mul];omega),hx,show (s + 1) * W + k - W=s * W + k by rw [Nat.add_one_mul];omega]
  exact rowAll_get (fun q hq=>h q (by simp [hq])) (by simpa using hs) hk
theorem rowAll_at:∀ {ss:List St},(∀ p ∈ ss,p.1.length=W)→∀ {i:Nat} {l:Ln},(rowAll ss)[i]?=some l→∃ s k p,i=s * W + k∧k < W∧ss[s]?=some p∧p.1[k]?=some l
 | [],_,i,l,hi=>by simp [rowAll] at hi
 | x :: r,h,i,l,hi=>by
  have hx:=h x (by simp)
  rw [rowAll_cons] at hi
  by_cases hlt:i < W
  ·rw [List.getElem?_append_left (by rw [hx];exact hlt)] at hi
   exact ⟨0,i,x,by omega,hlt,rfl,hi⟩
  ·rw [List.getElem?_append_right (by rw [hx];omega),hx] at hi
   obtain ⟨s,k,p,he,hk,hs,hl⟩:=rowAll_at (fun q hq=>h q (by simp [hq])) hi
   exact ⟨s + 1,k,p,by rw [Nat.add_one_mul];omega,hk,by simpa using hs,hl⟩
theorem rowAll_set:∀ {ss:List St},(∀ p ∈ ss,p.1.length=W)→∀ {s k m:Nat} {p:St} (l:Ln),ss[s]?=some p→k < W→rowAll (ss.set s (p.1.set k l,m))=(rowAll ss).set (s * W + k) l
 | [],_,s,k,m,p,l,hs,_=>by simp at hs
 | x :: r,h,0,k,m,p,l,hs,hk=>by
  simp at hs
  subst hs
  rw [List.set_cons_zero,rowAll_cons,rowAll_cons,Nat.zero_mul,Nat.zero_add,List.set_append_left _ _ (by rw [h x (by simp)];exact hk)]
 | x :: r,h,s + 1,k,m,p,l,hs,hk=>by
  have hx:=h x (by simp)
  rw [List.set_cons_succ,rowAll_cons,rowAll_cons,rowAll_set (fun q hq=>h q (by simp [hq])) l (by simpa using hs) hk,List.set_append_right _ _ (by rw [hx,Nat.add_one_mul];omega),hx,show (s + 1) * W + k - W=s * W + k by rw [Nat.add_one_mul];omega]
theorem rowAll_mem:∀ {ss:List St} {s m:Nat} {p:St},ss[s]?=some p→rowAll (ss.set s (p.1,m))=rowAll ss
 | [],s,m,p,hs=>by simp at hs
 | x :: r,0,m,p,hs=>by
  simp at hs
  subst hs
  rfl
 | x :: r,s + 1,m,p,hs=>by
  rw [List.set_cons_succ,rowAll_cons,rowAll_cons,rowAll_mem (by simpa using hs)]
theorem rowAll_place {c:Cfg} {ss:List St} (h:Inv c ss) (hw:∀ p ∈ ss,p.1.length=W) (hs:∀ b,ss[setOf c b]?=some (setAt c ss b)) (b:Int) :
  (rowAll ss).findIdx? (isOf b)=((setAt c ss b).1.findIdx? (isOf b)).map (fun k=>setOf c b * W + k):=by
 cases hn:(setAt c ss b).1.findIdx? (isOf b) with
 | none=>
  rw [Option.map_none,List.findIdx?_eq_none_iff]
  intro x hx
  obtain ⟨i,hi⟩:=List.getElem?_of_mem hx
  obtain ⟨s,k,p,rfl,hk,hp,hl⟩:=rowAll_at hw hi
  cases hq:isOf b x
  ·rfl
  ·obtain ⟨hv,rfl⟩:=isOf_iff.1 hq
   have h1:=(h.set s p hp k x hl hv).1
   have h2:=hs x.b
   rw [h1,hp] at h2
   have h3:p=setAt c ss x.b:=Option.some.inj h2
   rw [h3] at hl
   rw [idx_no hn k x hl] at hq
   cases hq
 | some k=>
  obtain ⟨x,hx,hxi,_⟩:=idx_at hn
  have hkW:k < W:=by
   have h1:=(List.findIdx?_eq_some_iff_getElem.1 hn).1
   rw [hw _ (List.mem_of_getElem? (hs b))] at h1
   exact h1
  rw [Option.map_some,List.findIdx?_eq_some_iff_getElem]
  have hg:=rowAll_get hw (hs b) hx
  obtain ⟨hlt,he⟩:=List.getElem?_eq_some_iff.1 hg
  refine ⟨hlt,by rw [he];exact hxi,fun j hj=>?_⟩
  have hjl:j < (rowAll ss).length:=by omega
  have hj':(rowAll ss)[j]?=some (rowAll ss)[j]:=List.getElem?_eq_getElem hjl
  obtain ⟨s,k',p,rfl,hk,hp,hl⟩:=rowAll_at hw hj'
  intro hq
  obtain ⟨hv,hb⟩:=isOf_iff.1 hq
  have h1:=(h.set s p hp k' _ hl hv).1
  rw [hb] at h1
  subst h1
  have h2:=hs b
  rw [hp] at h2
  have h3:p=setAt c ss b:=Option.some.inj h2
  rw [h3] at hl
  have hkk:k' < k:=by omega
  obtain ⟨_,_,h4⟩:=List.findIdx?_eq_some_iff_getElem.1 hn
  have h5:=h4 k' hkk
  obtain ⟨hll,hle⟩:=List.getElem?_eq_some_iff.1 hl
  rw [hle] at h5
  exact h5 hq
end
structure RLoc where
 b:Nat
 gl:Nat
 gm:Nat
structure Rac (w:World) (R:RLoc) (c:Cfg) (ss:List St):Prop where
 blk:w.heap[R.b]?=some (.cells (c.cells ++ #[.slice (some ⟨R.gl,0,none⟩) (rowAll ss).length (rowAll ss).length,.slice (some ⟨R.gm,0,none⟩) ss.length ss.length]) 131 (0,0))
 row:RowAt w R.gl (rowAll ss)
 mb:∃ cur,w.heap[R.gm]?=some (.cells cur 5 (0,0))
 mem:∀ (i:Nat) p,ss[i]?=some p→w.cell? ⟨R.gm,i,none⟩=some (.int .u8 (p.2:Int))
 len:(ss.length:Int)=c.se
 wid:∀ p ∈ ss,p.1.length=c.wa.toNat
 mlt:∀ p ∈ ss,p.2 < 256
 may:c.may
def RLoc.own (R:RLoc) (k:Nat):Prop:=k=R.gl ∨ k=R.gm
def RLoc.any (R:RLoc) (k:Nat):Prop:=k=R.b ∨ R.own k
section
variable {w w':World} {R:RLoc} {c:Cfg} {ss:List St} (h:Rac w R c ss)
include h
theorem Rac.lt {k:Nat} (hk:R.any k):k < w.heap.size:=by
 rcases hk with rfl | rfl | rfl
 ·exact lt_of h.blk
 ·exact h.row.lt
 ·obtain ⟨_,hc⟩:=h.mb;exact lt_of hc
theorem Rac.same (hb:∀ k,R.any k→w'.heap[k]?=w.heap[k]?):Rac w' R c ss:=by
 have hm:=hb R.gm (.inr (.inr rfl))
 refine ⟨(hb _ (.inl rfl)).trans h.blk,h.row.same (hb _ (.inr (.inl rfl))),?_,fun i p hp=>?_,h.len,h.wid,h.mlt,h.may⟩
 ·obtain ⟨cur,hc⟩:=h.mb;exact ⟨cur,hm.trans hc⟩
 ·rw [World.cell?_of_block (w:=w) (a:=⟨R.gm,i,none⟩) hm];exact h.mem i p hp
theorem Rac.grown (hg:w.grownBy w' none):Rac w' R c ss:=h.same (fun k hk=>hg.block k (h.lt hk) (by simp))
theorem Rac.at (b:Int):ss[setOf c b]?=some (setAt c ss b):=by
 have hlt:setOf c b < ss.length:=by have:=h.may.set_lt b;have:=h.len;omega
 rw [setAt,List.getElem?_eq_getElem hlt];rfl
theorem Rac.ne:R.gl ≠ R.b∧R.gm ≠ R.b∧R.gm ≠ R.gl:=by
 obtain ⟨_,h1⟩:=h.row.blk
 obtain ⟨_,h2⟩:=h.mb
 exact ⟨tyne h1 h.blk (by decide),tyne h2 h.blk (by decide),tyne h2 h1 (by decide)⟩
theorem Rac.cell (i:Nat) (v:Value) (hv:(c.cells ++ #[.slice (some ⟨R.gl,0,none⟩) (rowAll ss).length (rowAll ss).length,.slice (some ⟨R.gm,0,none⟩) ss.length ss.length])[i]?=some v):w.cell? ⟨R.b,i,none⟩=some v:=(cell_of_row _ _ _ _ _ _ h.blk).trans hv
theorem Rac.lines:w.cell? ⟨R.b,8,none⟩=some (.slice (some ⟨R.gl,0,none⟩) (rowAll ss).length (rowAll ss).length):=h.cell 8 _ rfl
theorem Rac.mems:w.cell? ⟨R.b,9,none⟩=some (.slice (some ⟨R.gm,0,none⟩) ss.length ss.length):=h.cell 9 _ rfl
theorem Rac.cfg:CfgAt w R.b c:=⟨h.cell 0 _ rfl,h.cell 1 _ rfl,h.cell 2 _ rfl,h.cell 3 _ rfl,h.cell 4 _ rfl,h.cell 5 _ rfl,h.cell 6 _ rfl,h.cell 7 _ rfl⟩
theorem Rac.flen:(rowAll ss).length=ss.length * c.wa.toNat:=rowAll_len h.wid
end
end Go.Proofs.YtcoimipgilkmbaaGreatDoor.kk

namespace Go.Proofs.YtcoimipgilkmbaaGreatDoor.kk
set_option linter.unusedVariables false
set_option linter.unusedSimpArgs false
set_option maxRecDepth 1000000
set_option maxHeartbeats 16000000
open Go Go.ChangeShapes Go.WideShapes Go.ChangeAt Go.RowKit Go.Shelf
open Go.Proofs.YtcoimipgilkmbaaGreatDoor.tt (hb Cfg rset_in rset_neg)
theorem rset_any (c:Cfg) (b:Int) (w:World) (hm:c.may):Calls Tryz.prog 149 #[.agg c.cells,.int .i64 b] w fun e w'=>e = .returned (.int .i64 (setOf c b:Nat))∧w.grownBy w' none:=by
 by_cases h:b < 0
 ·refine (rset_neg c b w hm h).mono ?_
  rintro e w' ⟨rfl,hg⟩
  exact ⟨by rw [setOf,if_pos h];rfl,hg⟩
 ·refine (rset_in c b w hm (by omega)).mono ?_
  rintro e w' ⟨rfl,hg⟩
  have h2:=Int.emod_nonneg b (show c.se ≠ 0 by have:=hm.sets;omega)
  exact ⟨by rw [setOf,if_neg h,Int.toNat_of_nonneg h2],hg⟩
theorem ix_up {p:Ln→Bool} {ls:List Ln} {k:Nat} (h:∀ (j:Nat) x,j < k→ls[j]?=some x→p x=false) {x:Ln} (hx:ls[k]?=some x) (hp:p x=false):∀ (j:Nat) y,j < k + 1→ls[j]?=some y→p y=false:=fun j y hj hy=>by
 by_cases hjk:j=k
 ·subst hjk
  rw [hx] at hy;cases hy;exact hp
 ·exact h j y (by omega) hy
theorem Rac.n64 {w:World} {R:RLoc} {c:Cfg} {ss:List St} (h:Rac w R c ss):(rowAll ss).length ≤ 64:=by
 have h1:=h.may.sets
 have h2:=h.may.ways
 have h3:=h.len
 rw [h.flen]
 have h4:ss.length ≤ 16:=by omega
 have h5:c.wa.toNat ≤ 4:=by omega
 calc ss.length * c.wa.toNat ≤ 16 * 4:=Nat.mul_le_mul h4 h5
  _=64:=rfl
section
variable (R:RLoc) (c:Cfg) (ss:List St) (w:World) (hR:Rac w R c ss)
include hR
theorem rplace_any (b:Int):Calls Tryz.prog 77 #[.pointer (some ⟨R.b,0,none⟩),.int .i64 b] w fun e w'=>e = .returned (.int .i64 (ix (isOf b) (rowAll ss)))∧w=w':=by
 obtain ⟨n,hn⟩:∃ n,n=(rowAll ss).length:=⟨_,rfl⟩
 have c8:=hR.lines
 rw [← hn] at c8
 have hn64:n ≤ 64:=by rw [hn];exact hR.n64
 have HN:=qh hn
 have HR:=qh hR.row
 clear hn hR
 go_enter Tryz.func77,Tryz.ntmps77
 go_wp2
 go_loopw [5] (fun i wr=>∃ k:Nat,k ≤ n∧i = .int .i64 (k:Int)∧w=wr∧∀ (j:Nat) x,j < k→(rowAll ss)[j]?=some x→isOf b x=false) (fun i _=>n - (intOf i).toNat)
 case atStart=>exact ⟨0,Nat.zero_le _,rfl,rfl,fun j x hj=>by omega⟩
 case round=>
  obtain ⟨k,hk,rfl,rfl,hno⟩:=hrel
  have HNO:=qh hno
  clear hno
  by_cases hlt:k < n
  ·have hw1:wrap64 ((k:Int) + 1)=(k:Int) + 1:=w64 _ (by omega) (by omega)
   obtain ⟨l,hll⟩:∃ l,(rowAll ss)[k]?=some l:=⟨_,List.getElem?_eq_getElem (by have:=HN.out;omega)⟩
   have HLL:=qh hll
   have d0:=HR.out.at_ k l hll 0 _ (ln0 l)
   have d1:=HR.out.at_ k l hll 1 _ (ln1 l)
   rw [Nat.add_zero] at d0
   clear hll
   by_cases hs:l.s=0
   ·have es:(l.s != 0)=false:=by simp [hs]
    have HQ:Hid (isOf b l=false):=qh (by simp [isOf,hs])
    clear hs
    go_wp2
    go_roundw
    case rel=>exact ⟨k + 1,by omega,by go_num,by simp,ix_up HNO.out HLL.out HQ.out⟩
    case measure=>simp [intOf];omega
   ·have es:(l.s != 0)=true:=by simp [hs]
    by_cases hb:l.b=b
    ·have eb:(l.b == b)=true:=by simp [hb]
     have HQ:Hid (isOf b l=true):=qh (by simp [isOf,hs,hb])
     clear hs hb
     go_wp2
     go_ret
     exact ⟨by rw [ix_hit (isOf b) _ k l HLL.out HQ.out HNO.out];rfl,rfl⟩
    ·have eb:(l.b == b)=false:=by simp [hb]
     have HQ:Hid (isOf b l=false):=qh (by simp [isOf,hb])
     clear hs hb
     go_wp2
     go_roundw
     case rel=>exact ⟨k + 1,by omega,by go_num,by simp,ix_up HNO.out HLL.out HQ.out⟩
     case measure=>simp [intOf];omega
  ·obtain rfl:k=n:=by omega
   clear hlt hk
   go_wp2
   go_ret
   exact ⟨by rw [ix_miss (isOf b) _ (fun j x hx=>HNO.out j x (by have:=(List.getElem?_eq_some_iff.1 hx).1;have:=HN.out;omega) hx)];rfl,rfl⟩
end
end Go.Proofs.YtcoimipgilkmbaaGreatDoor.kk

namespace Go.Proofs.YtcoimipgilkmbaaGreatDoor.kk
set_option linter.unusedVariables false
set_option linter.unusedSimpArgs false
set_option maxRecDepth 1000000
set_option maxHeartbeats 16000000
open Go Go.ChangeShapes Go.WideShapes Go.ChangeAt Go.RowKit
open Go.Proofs.YtcoimipgilkmbaaGreatDoor.tt (grown_refl grown_alloc)
def three (m:Nat):Array Value:=#[.int .i64 (bt m 0:Nat),.int .i64 (bt m 1:Nat),.int .i64 (bt m 2:Nat)]
theorem info102:(Tryz.prog.info? 221).map (·.size)=some 3:=by kernel_rfl
theorem three_eq (m:Nat):#[Value.int .i64 ((m:Int) % 2),.int .i64 ((m:Int) / 2 % 2),.int .i64 ((m:Int) / 4 % 2)]=three m:=by
 unfold three bt;simp
theorem bits_any (m:Nat) (w:World) (hm:m < 256):Calls Tryz.prog 172 #[.int .u8 (m:Int)] w fun e w'=>e = .returned (.agg (three m))∧w.grownBy w' none:=by
 go_enter Tryz.func172,Tryz.ntmps172
 go_wp2
 refine bodyPost_ret (v:= .agg (three m)) (results_cell_row rfl _ _ w.heap.size 221 (three m) (0,0) _ rfl ?_ Tryz.underlying221 rfl info102) rfl ?_
 ·rw [three_eq];exact heap_alloc_new _ _
 ·exact ⟨rfl,grown_alloc (grown_refl _ _) _⟩
theorem us_form:∀ (m:Fin 256) (k:Fin 4),us m.val 4 k.val=m.val / 8 * 8 + (1 - k.val / 2) + 2 * (if k.val / 2=0 then 1 - k.val % 2 else bt m.val 1) + 4 * (if k.val / 2=1 then 1 - k.val % 2 else bt m.val 2):=by decide +kernel
theorem us_form2:∀ (m:Fin 256) (k:Fin 2),us m.val 2 k.val=m.val / 8 * 8 + (1 - k.val) + 2 * bt m.val 1 + 4 * bt m.val 2:=by decide +kernel
theorem us_form1:∀ (m:Fin 256),us m.val 1 0=m.val / 8 * 8 + bt m.val 0 + 2 * bt m.val 1 + 4 * bt m.val 2:=by decide +kernel
theorem ret_use {a b x:Int} (h:a=b):Ending.returned (.tuple #[.int .u8 a,.int .i64 x])=Ending.returned (.tuple #[.int .u8 b,.int .i64 x]):=by rw [h]
theorem ruse10 (m:Nat) (w:World) (hm:m < 256):Calls Tryz.prog 173 #[.int .u8 (m:Int),.int .i64 1,.int .i64 0] w fun e w'=>e = .returned (.tuple #[.int .u8 (us m 1 0:Nat),.int .i64 0])∧w.grownBy w' none:=by
 have HF:=qh (us_form1 ⟨m,hm⟩)
 have hq:=qh (bits_any m w hm)
 unfold three at hq
 have h0:=bt_lt m 0
 have h1:=bt_lt m 1
 have h2:=bt_lt m 2
 generalize bt m 0=b0 at *
 generalize bt m 1=b1 at *
 generalize bt m 2=b2 at *
 go_enter Tryz.func173,Tryz.ntmps173
 go_wp2_with (go_at_call 172;((with_reducible refine hq.out.mono ?_);rintro e w1 ⟨rfl,hg1⟩;have HG1:=qh hg1;clear hg1))
 go_ret2
 refine ⟨ret_use ?_,?_⟩
 ·rw [HF.out]
  simp <;> omega
 ·exact grown_alloc HG1.out _
theorem ruse20 (m:Nat) (w:World) (hm:m < 256):Calls Tryz.prog 173 #[.int .u8 (m:Int),.int .i64 2,.int .i64 0] w fun e w'=>e = .returned (.tuple #[.int .u8 (us m 2 0:Nat),.int .i64 0])∧w.grownBy w' none:=by
 have HF:=qh (us_form2 ⟨m,hm⟩ ⟨0,by decide⟩)
 have hq:=qh (bits_any m w hm)
 unfold three at hq
 have h0:=bt_lt m 0
 have h1:=bt_lt m 1
 have h2:=bt_lt m 2
 generalize bt m 0=b0 at *
 generalize bt m 1=b1 at *
 generalize bt m 2=b2 at *
 go_enter Tryz.func173,Tryz.ntmps173
 go_wp2_with (go_at_call 172;((with_reducible refine hq.out.mono ?_);rintro e w1 ⟨rfl,hg1⟩;have HG1:=qh hg1;clear hg1))
 go_ret2
 refine ⟨ret_use ?_,?_⟩
 ·rw [HF.out]
  simp <;> omega
 ·exact grown_alloc HG1.out _
theorem ruse21 (m:Nat) (w:World) (hm:m < 256):Calls Tryz.prog 173 #[.int .u8 (m:Int),.int .i64 2,.int .i64 1] w fun e w'=>e = .returned (.tuple #[.int .u8 (us m 2 1:Nat),.int .i64 0])∧w.grownBy w' none:=by
 have HF:=qh (us_form2 ⟨m,hm⟩ ⟨1,by decide⟩)
 have hq:=qh (bits_any m w hm)
 unfold three at hq
 have h0:=bt_lt m 0
 have h1:=bt_lt m 1
 have h2:=bt_lt m 2
 generalize bt m 0=b0 at *
 generalize bt m 1=b1 at *
 generalize bt m 2=b2 at *
 go_enter Tryz.func173,Tryz.ntmps173
 go_wp2_with (go_at_call 172;((with_reducible refine hq.out.mono ?_);rintro e w1 ⟨rfl,hg1⟩;have HG1:=qh hg1;clear hg1))
 go_ret2
 refine ⟨ret_use ?_,?_⟩
 ·rw [HF.out]
  simp <;> omega
 ·exact grown_alloc HG1.out _
theorem ruse40 (m:Nat) (w:World) (hm:m < 256):Calls Tryz.prog 173 #[.int .u8 (m:Int),.int .i64 4,.int .i64 0] w fun e w'=>e = .returned (.tuple #[.int .u8 (us m 4 0:Nat),.int .i64 0])∧w.grownBy w' none:=by
 have HF:=qh (us_form ⟨m,hm⟩ ⟨0,by decide⟩)
 have hq:=qh (bits_any m w hm)
 unfold three at hq
 have h0:=bt_lt m 0
 have h1:=bt_lt m 1
 have h2:=bt_lt m 2
 generalize bt m 0=b0 at *
 generalize bt m 1=b1 at *
 generalize bt m 2=b2 at *
 go_enter Tryz.func173,Tryz.ntmps173
 go_wp2_with (go_at_call 172;((with_reducible refine hq.out.mono ?_);rintro e w1 ⟨rfl,hg1⟩;have HG1:=qh hg1;clear hg1))
 go_ret2
 refine ⟨ret_use ?_,?_⟩
 ·rw [HF.out]
  simp <;> omega
 ·exact grown_alloc HG1.out _
theorem ruse41 (m:Nat) (w:World) (hm:m < 256):Calls Tryz.prog 173 #[.int .u8 (m:Int),.int .i64 4,.int .i64 1] w fun e w'=>e = .returned (.tuple #[.int .u8 (us m 4 1:Nat),.int .i64 0])∧w.grownBy w' none:=by
 have HF:=qh (us_form ⟨m,hm⟩ ⟨1,by decide⟩)
 have hq:=qh (bits_any m w hm)
 unfold three at hq
 have h0:=bt_lt m 0
 have h1:=bt_lt m 1
 have h2:=bt_lt m 2
 generalize bt m 0=b0 at *
 generalize bt m 1=b1 at *
 generalize bt m 2=b2 at *
 go_enter Tryz.func173,Tryz.ntmps173
 go_wp2_with (go_at_call 172;((with_reducible refine hq.out.mono ?_);rintro e w1 ⟨rfl,hg1⟩;have HG1:=qh hg1;clear hg1))
 go_ret2
 refine ⟨ret_use ?_,?_⟩
 ·rw [HF.out]
  simp <;> omega
 ·exact grown_alloc HG1.out _
theorem ruse42 (m:Nat) (w:World) (hm:m < 256):Calls Tryz.prog 173 #[.int .u8 (m:Int),.int .i64 4,.int .i64 2] w fun e w'=>e = .returned (.tuple #[.int .u8 (us m 4 2:Nat),.int .i64 0])∧w.grownBy w' none:=by
 have HF:=qh (us_form ⟨m,hm⟩ ⟨2,by decide⟩)
 have hq:=qh (bits_any m w hm)
 unfold three at hq
 have h0:=bt_lt m 0
 have h1:=bt_lt m 1
 have h2:=bt_lt m 2
 generalize bt m 0=b0 at *
 generalize bt m 1=b1 at *
 generalize bt m 2=b2 at *
 go_enter Tryz.func173,Tryz.ntmps173
 go_wp2_with (go_at_call 172;((with_reducible refine hq.out.mono ?_);rintro e w1 ⟨rfl,hg1⟩;have HG1:=qh hg1;clear hg1))
 go_ret2
 refine ⟨ret_use ?_,?_⟩
 ·rw [HF.out]
  simp <;> omega
 ·exact grown_alloc HG1.out _
theorem ruse43 (m:Nat) (w:World) (hm:m < 256):Calls Tryz.prog 173 #[.int .u8 (m:Int),.int .i64 4,.int .i64 3] w fun e w'=>e = .returned (.tuple #[.int .u8 (us m 4 3:Nat),.int .i64 0])∧w.grownBy w' none:=by
 have HF:=qh (us_form ⟨m,hm⟩ ⟨3,by decide⟩)
 have hq:=qh (bits_any m w hm)
 unfold three at hq
 have h0:=bt_lt m 0
 have h1:=bt_lt m 1
 have h2:=bt_lt m 2
 generalize bt m 0=b0 at *
 generalize bt m 1=b1 at *
 generalize bt m 2=b2 at *
 go_enter Tryz.func173,Tryz.ntmps173
 go_wp2_with (go_at_call 172;((with_reducible refine hq.out.mono ?_);rintro e w1 ⟨rfl,hg1⟩;have HG1:=qh hg1;clear hg1))
 go_ret2
 refine ⟨ret_use ?_,?_⟩
 ·rw [HF.out]
  simp <;> omega
 ·exact grown_alloc HG1.out _
theorem ruse_in (m ways way:Nat) (w:World) (hm:m < 256) (hg:good ways) (hw:way < ways):Calls Tryz.prog 173 #[.int .u8 (m:Int),.int .i64 (ways:Int),.int .i64 (way:Int)] w fun e w'=>e = .returned (.tuple #[.int .u8 (us m ways way:Nat),.int .i64 0])∧w.grownBy w' none:=by
 have hg':ways=1 ∨ ways=2 ∨ ways=4:=by unfold good at hg;omega
 rcases hg' with rfl | rfl | rfl
 ·obtain rfl:way=0:=by omega
  exact ruse10 m w hm
 ·obtain rfl | rfl:way=0 ∨ way=1:=by omega
  ·exact ruse20 m w hm
  ·exact ruse21 m w hm
 ·obtain rfl | rfl | rfl | rfl:way=0 ∨ way=1 ∨ way=2 ∨ way=3:=by omega
  ·exact ruse40 m w hm
  ·exact ruse41 m w hm
  ·exact ruse42 m w hm
  ·exact ruse43 m w hm
theorem rvictim1 (m:Nat) (w:World) (hm:m < 256):Calls Tryz.prog 150 #[.int .u8 (m:Int),.int .i64 1] w fun e w'=>e = .returned (.tuple #[.int .i64 (vc m 1:Nat),.int .i64 0])∧w.grownBy w' none:=by
 have hq:=qh (bits_any m w hm)
 unfold three at hq
 go_enter Tryz.func150,Tryz.ntmps150
 go_wp2_with (go_at_call 172;((with_reducible refine hq.out.mono ?_);rintro e w1 ⟨rfl,hg1⟩;have HG1:=qh hg1;clear hg1))
 go_ret2
 exact ⟨rfl,grown_alloc HG1.out _⟩
theorem rvictim2 (m:Nat) (w:World) (hm:m < 256):Calls Tryz.prog 150 #[.int .u8 (m:Int),.int .i64 2] w fun e w'=>e = .returned (.tuple #[.int .i64 (vc m 2:Nat),.int .i64 0])∧w.grownBy w' none:=by
 have hq:=qh (bits_any m w hm)
 unfold three at hq
 go_enter Tryz.func150,Tryz.ntmps150
 go_wp2_with (go_at_call 172;((with_reducible refine hq.out.mono ?_);rintro e w1 ⟨rfl,hg1⟩;have HG1:=qh hg1;clear hg1))
 go_ret2
 exact ⟨rfl,grown_alloc HG1.out _⟩
theorem rvictim4 (m:Nat) (w:World) (hm:m < 256):Calls Tryz.prog 150 #[.int .u8 (m:Int),.int .i64 4] w fun e w'=>e = .returned (.tuple #[.int .i64 (vc m 4:Nat),.int .i64 0])∧w.grownBy w' none:=by
 have hq:=qh (bits_any m w hm)
 unfold three at hq
 have h0:=bt_lt m 0
 have h2:=bt_lt m 2
 obtain h | h:bt m 0=0 ∨ bt m 0=1:=by omega
 ·have hv:Hid _:=qh (show vc m 4=bt m 1 by unfold vc;rw [h];simp)
  rw [h] at hq
  clear h h0
  go_enter Tryz.func150,Tryz.ntmps150
  go_wp2_with (go_at_call 172;((with_reducible refine hq.out.mono ?_);rintro e w1 ⟨rfl,hg1⟩;have HG1:=qh hg1;clear hg1))
  go_ret2
  exact ⟨ret_pair (by rw [hv.out]),grown_alloc HG1.out _⟩
 ·have hv:Hid _:=qh (show vc m 4=2 + bt m 2 by unfold vc;rw [h];simp)
  rw [h] at hq
  clear h h0
  go_enter Tryz.func150,Tryz.ntmps150
  go_wp2_with (go_at_call 172;((with_reducible refine hq.out.mono ?_);rintro e w1 ⟨rfl,hg1⟩;have HG1:=qh hg1;clear hg1))
  go_ret2
  refine ⟨ret_pair ?_,grown_alloc HG1.out _⟩
  rw [hv.out]
  simp
theorem rvictim_in (m ways:Nat) (w:World) (hm:m < 256) (hg:good ways):Calls Tryz.prog 150 #[.int .u8 (m:Int),.int .i64 (ways:Int)] w fun e w'=>e = .returned (.tuple #[.int .i64 (vc m ways:Nat),.int .i64 0])∧w.grownBy w' none:=by
 have hg':ways=1 ∨ ways=2 ∨ ways=4:=by unfold good at hg;omega
 rcases hg' with rfl | rfl | rfl
 ·exact rvictim1 m w hm
 ·exact rvictim2 m w hm
 ·exact rvictim4 m w hm
end Go.Proofs.YtcoimipgilkmbaaGreatDoor.kk

namespace Go.Proofs.YtcoimipgilkmbaaGreatDoor.kk
set_option linter.unusedVariables false
set_option linter.unusedSimpArgs false
set_option maxRecDepth 1000000
set_option maxHeartbeats 16000000
open Go Go.ChangeShapes Go.WideShapes Go.ChangeAt Go.RowKit Go.Shelf
open Go.Proofs.YtcoimipgilkmbaaGreatDoor.tt (hb Cfg grown_refl grown_drew grown_trans)
theorem find_hit {p:Ln→Bool} {ls:List Ln} {k:Nat} {l:Ln} (hl:ls[k]?=some l) (hp:p l=true) (hno:∀ (j:Nat) x,j < k→ls[j]?=some x→p x=false):ls.findIdx? p=some k:=by
 obtain ⟨h1,h2⟩:=List.getElem?_eq_some_iff.1 hl
 refine List.findIdx?_eq_some_iff_getElem.2 ⟨h1,by rw [h2];exact hp,fun j hj=>?_⟩
 have:=hno j _ hj (List.getElem?_eq_getElem (by omega))
 simp [this]
theorem find_miss {p:Ln→Bool} {ls:List Ln} (hno:∀ (j:Nat) x,ls[j]?=some x→p x=false):ls.findIdx? p=none:=
 List.findIdx?_eq_none_iff.2 fun x hx=>by
  obtain ⟨j,hj⟩:=List.getElem?_of_mem hx
  exact hno j x hj
def ixs (s W:Nat):Option Nat→Int
 | none=>-1
 | some k=>((s * W + k:Nat):Int)
theorem tdiv_at (s n k:Nat) (hk:k < n):Int.tdiv ((s * n + k:Nat):Int) (n:Int)=(s:Int):=by
 have e:(s * n + k) / n=s:=by rw [Nat.mul_comm,Nat.mul_add_div (by omega),Nat.div_eq_of_lt hk,Nat.add_zero]
 rw [← Int.ofNat_tdiv,e]
theorem tmod_at (s n k:Nat) (hk:k < n):Int.tmod ((s * n + k:Nat):Int) (n:Int)=(k:Int):=by
 have e:(s * n + k) % n=k:=by rw [Nat.mul_comm,Nat.mul_add_mod,Nat.mod_eq_of_lt hk]
 rw [← Int.ofNat_tmod,e]
def Us3 (w':World) (B G S s m n:Nat):Prop:=w'.cell? ⟨B,9,none⟩=some (.slice (some ⟨G,0,none⟩) S S)∧w'.cell? ⟨G,s,none⟩=some (.int .u8 (m:Int))∧w'.cell? ⟨B,2,none⟩=some (.int .i64 (n:Int))
section
variable (R:RLoc) (c:Cfg) (ss:List St) (w:World) (hR:Rac w R c ss)
include hR
theorem rfree_any (b:Int):Calls Tryz.prog 148 #[.pointer (some ⟨R.b,0,none⟩),.int .i64 b] w fun e w'=>e = .returned (.int .i64 (ixs (setOf c b) c.wa.toNat ((setAt c ss b).1.findIdx? isFree)))∧w.grownBy w' none:=by
 have hp:=hR.at b
 have hmay:=hR.may
 have hwl:=hR.wid _ (List.mem_of_getElem? hp)
 have hways:=hmay.ways
 obtain ⟨W,hW⟩:∃ W,W=c.wa.toNat:=⟨_,rfl⟩
 have hwa:c.wa=(W:Int):=by omega
 have hW4:1 ≤ W∧W ≤ 4:=by omega
 rw [← hW] at hwl ⊢
 have HS:=qh (rset_any c b w hmay)
 have hslt:setOf c b < 16:=by have:=hmay.set_lt b;have:=hmay.sets;omega
 have HR:=qh (fun w' (h:w.grownBy w' none)=>hR.grown h)
 obtain ⟨c0,c1,c2,c3,c4,c5,c6,c7⟩:=hR.cfg
 obtain ⟨s,hs⟩:∃ s,s=setOf c b:=⟨_,rfl⟩
 rw [← hs] at HS hslt hp ⊢
 obtain ⟨n,hn⟩:∃ n,n=(rowAll ss).length:=⟨_,rfl⟩
 have HC2:Hid (∀ w',w.grownBy w' none→w'.cell? ⟨R.b,2,none⟩=some (.int .i64 (W:Int))∧w'.cell? ⟨R.b,8,none⟩=some (.slice (some ⟨R.gl,0,none⟩) n n)):=qh fun w' h=>by
  rw [← hwa,hn];exact ⟨(hR.grown h).cfg.c2,(hR.grown h).lines⟩
 obtain ⟨sW,hsW⟩:∃ sW,sW=s * W:=⟨_,rfl⟩
 have hmul:wrap64 ((s:Int) * (W:Int))=(sW:Int):=by
  rw [hsW,Int.natCast_mul]
  exact w64 _ (by have:=Int.mul_nonneg (Int.natCast_nonneg s) (Int.natCast_nonneg W);omega) (by rw [← Int.natCast_mul];have:s * W ≤ 16 * 4:=Nat.mul_le_mul (by omega) hW4.2;omega)
 have hsW64:sW ≤ 64:=by rw [hsW];exact Nat.mul_le_mul (show s ≤ 16 by omega) hW4.2
 have HG:Hid (∀ k l,k < W→(setAt c ss b).1[k]?=some l→sW + k < n∧∀ w',w.grownBy w' none→w'.cell? ⟨R.gl,(sW + k) * 18 + 1,none⟩=some (.int .u8 l.s)):=qh fun k l hk hl=>by
  have hg:=rowAll_get hR.wid hp hl
  rw [← hW,← hsW] at hg
  exact ⟨by rw [hn];exact (List.getElem?_eq_some_iff.1 hg).1,fun w' h=>(hR.grown h).row.at_ _ l hg 1 _ (ln1 l)⟩
 have HP:=qh hwl
 generalize (setAt c ss b).1=ls at *
 rw [show ixs s W (ls.findIdx? isFree)=match ls.findIdx? isFree with | none=>-1 | some k=>((sW + k:Nat):Int) by rw [hsW];cases ls.findIdx? isFree <;> rfl]
 obtain ⟨z,hz⟩:∃ z:Int,z=match ls.findIdx? isFree with | none=>-1 | some k=>((sW + k:Nat):Int):=⟨_,rfl⟩
 rw [← hz]
 have HZ:=qh hz
 unfold Cfg.cells at HS
 clear hz hW hR hwl hp hmay hs hways hwa hn hsW hslt
 go_enter Tryz.func148,Tryz.ntmps148
 go_wp2_with (go_at_call 149;((with_reducible refine HS.out.mono ?_);rintro e w1 ⟨rfl,hg1⟩;have HG1:=qh hg1;clear hg1 c0 c1 c2 c3 c4 c5 c6 c7))
 go_loopw [6] (fun i wr=>∃ k:Nat,k ≤ W∧i = .int .i64 (k:Int)∧w.grownBy wr none∧∀ (j:Nat) x,j < k→ls[j]?=some x→isFree x=false) (fun i _=>W - (intOf i).toNat)
 case atStart=>exact ⟨0,Nat.zero_le _,rfl,HG1.out,fun j x hj=>by omega⟩
 case round=>
  obtain ⟨k,hk,rfl,hg,hno⟩:=hrel
  have HNO:=qh hno
  have HGR:=qh hg
  obtain ⟨c2,c8⟩:=HC2.out _ hg
  clear hno
  by_cases hlt:k < W
  ·have hw1:wrap64 ((k:Int) + 1)=(k:Int) + 1:=w64 _ (by omega) (by omega)
   obtain ⟨l,hll⟩:∃ l,ls[k]?=some l:=⟨_,List.getElem?_eq_getElem (by have:=HP.out;omega)⟩
   have HLL:=qh hll
   obtain ⟨hin,hd⟩:=HG.out k l hlt hll
   have hadd:wrap64 ((sW:Int) + (k:Int))=(sW:Int) + (k:Int):=w64 _ (by omega) (by omega)
   have hi0:0 ≤ (sW:Int) + (k:Int):=by omega
   have hi1:(sW:Int) + (k:Int) < (n:Int):=by omega
   have htn:((sW:Int) + (k:Int)).toNat=sW + k:=by omega
   obtain ⟨i,hi⟩:∃ i,i=sW + k:=⟨_,rfl⟩
   have HI:=qh hi
   rw [← hi] at htn hd
   have d1:=hd _ hg
   clear hll hd hi hg hin
   by_cases hs:l.s=0
   ·have es:(l.s == 0)=true:=by simp [hs]
    have HQ:Hid (isFree l=true):=qh (by simp [isFree,hs])
    clear hs
    go_wp2
    go_region
    go_wp2
    go_ret
    refine ⟨?_,grown_trans HGR.out (grown_drew (grown_refl _ _))⟩
    rw [HZ.out,find_hit HLL.out HQ.out HNO.out]
    show Ending.returned (.int .i64 ((sW:Int) + (k:Int)))=Ending.returned (.int .i64 ((sW + k:Nat):Int))
    rw [Int.natCast_add]
   ·have es:(l.s == 0)=false:=by simp [hs]
    have HQ:Hid (isFree l=false):=qh (by simp [isFree,hs])
    clear hs
    go_wp2
    go_region
    go_wp2
    go_roundw
    case rel=>exact ⟨k + 1,by omega,by go_num,grown_trans HGR.out (grown_drew (grown_refl _ _)),ix_up HNO.out HLL.out HQ.out⟩
    case measure=>simp [intOf];omega
  ·obtain rfl:k=W:=by omega
   clear hlt hk
   go_wp2
   go_ret
   exact ⟨by rw [HZ.out,find_miss (fun j x hx=>HNO.out j x (by have:=(List.getElem?_eq_some_iff.1 hx).1;have:=HP.out;omega) hx)];rfl,HGR.out⟩
theorem Rac.setMem {i:Nat} {p:St} (hp:ss[i]?=some p) (m:Nat) (hm:m < 256):Rac (w.setCell ⟨R.gm,i,none⟩ (.int .u8 (m:Int))) R c (ss.set i (p.1,m)):=by
 have hi:i < ss.length:=(List.getElem?_eq_some_iff.1 hp).1
 obtain ⟨hn1,hn2,hn3⟩:=hR.ne
 have hg:=grown_setCell w R.gm i (.int .u8 (m:Int))
 have hb:=hg.block R.b (hR.lt (.inl rfl)) (fun e=>hn2 (Option.some.inj e).symm)
 have hl:=hg.block R.gl (hR.lt (.inr (.inl rfl))) (fun e=>hn3 (Option.some.inj e).symm)
 refine ⟨by rw [List.length_set,rowAll_mem hp];exact hb.trans hR.blk,by rw [rowAll_mem hp];exact hR.row.same hl,?_,fun j p' hj=>?_,by rw [List.length_set];exact hR.len,fun p' hp'=>?_,fun p' hp'=>?_,hR.may⟩
 ·obtain ⟨cur,hc⟩:=hR.mb;exact ⟨_,blk_setCell _ hc⟩
 ·by_cases hji:j=i
  ·subst hji
   rw [List.getElem?_set_self hi] at hj
   cases hj
   have h0:=hR.mem _ p hp
   exact World.cell?_setCells_in R.gm [.int .u8 (m:Int)] j w (fun i hi=>by simp at hi;subst hi;rw [Nat.add_zero,h0];rfl) 0 (by simp)
  ·rw [List.getElem?_set_ne (fun e=>hji e.symm)] at hj
   have h0:=hR.mem j p' hj
   have:=World.rangeAt_setCells_apart (w:=w) (b':=R.gm) (o':=j) (cs:=[.int .u8 (p'.2:Int)]) (fun j v hv=>by
    match j,hv with
    | 0,hv=>simp at hv;subst hv;exact h0
    | j + 1,hv=>simp at hv) R.gm i [.int .u8 (m:Int)] (.inr (by simp;omega))
   exact this 0 _ rfl
 ·rcases List.mem_or_eq_of_mem_set hp' with hp' | rfl
  ·exact hR.wid p' hp'
  ·exact hR.wid p (List.mem_of_getElem? hp)
 ·rcases List.mem_or_eq_of_mem_set hp' with hp' | rfl
  ·exact hR.mlt p' hp'
  ·exact hm
theorem Rac.good {p:St} (hp:p ∈ ss):good (p.1.length:Int):=by
 have h1:=hR.wid p hp
 have h2:=hR.may.ways
 unfold kk.good
 omega
omit hR in
theorem Us3.more {w1 w2:World} {B G S s m n:Nat} (h:Us3 w1 B G S s m n) (hg:w1.grownBy w2 none):Us3 w2 B G S s m n:=⟨hg.cell h.1 (by simp),hg.cell h.2.1 (by simp),hg.cell h.2.2 (by simp)⟩
theorem rused_any (s k:Nat) (p:St) (hp:ss[s]?=some p) (hk:k < p.1.length):Calls Tryz.prog 151 #[.pointer (some ⟨R.b,0,none⟩),.int .i64 ((s * p.1.length + k:Nat):Int)] w fun e w'=>e = .returned (.tuple #[])∧Rac w' R c (ss.set s (p.1,us p.2 p.1.length k))∧Kept R.own w w':=by
 have hmem:=List.mem_of_getElem? hp
 have hg:=Rac.good R c ss w hR hmem
 have hwl:=hR.wid _ hmem
 have hm256:=hR.mlt p hmem
 have hs:s < ss.length:=(List.getElem?_eq_some_iff.1 hp).1
 have HU:=qh (fun w=>ruse_in p.2 p.1.length k w hm256 hg hk)
 have hW4:p.1.length ≤ 4:=by unfold kk.good at hg;omega
 have HM:=qh (us_lt p.2 p.1.length k hm256 hk hW4)
 have HC:Hid (∀ w',w.grownBy w' none→(w'.cell? ⟨R.b,9,none⟩=some (.slice (some ⟨R.gm,0,none⟩) ss.length ss.length)∧w'.cell? ⟨R.gm,s,none⟩=some (.int .u8 (p.2:Int))∧w'.cell? ⟨R.b,2,none⟩=some (.int .i64 (p.1.length:Int)))∧w'.frozen? ⟨R.gm,s,none⟩=false):=qh fun w' h=>by
  have h':=hR.grown h
  have:=h'.cfg.c2
  obtain ⟨_,hc⟩:=h'.mb
  rw [show c.wa=(p.1.length:Int) by have:=hR.may.ways;omega] at this
  exact ⟨⟨h'.mems,h'.mem s p hp,this⟩,frozen_of_row _ _ _ _ _ hc⟩
 have HE:Hid (∀ w',w.grownBy w' none→Rac (w'.setCell ⟨R.gm,s,none⟩ (.int .u8 (us p.2 p.1.length k:Nat))) R c (ss.set s (p.1,us p.2 p.1.length k))∧Kept R.own w (w'.setCell ⟨R.gm,s,none⟩ (.int .u8 (us p.2 p.1.length k:Nat)))):=qh fun w' h=>
  ⟨Rac.setMem R c ss w' (hR.grown h) hp _ HM.out,(Kept.of h).trans (Kept.one (grown_setCell _ _ _ _) (.inr rfl))⟩
 generalize us p.2 p.1.length k=m' at *
 generalize p.1.length=n at *
 generalize p.2=m0 at *
 have hlen:=hR.len
 generalize ss.length=S at *
 obtain ⟨i,hi⟩:∃ i,i=s * n + k:=⟨_,rfl⟩
 have hq:Int.tdiv (i:Int) (n:Int)=(s:Int):=by rw [hi];exact tdiv_at s n k hk
 have hr:Int.tmod (i:Int) (n:Int)=(k:Int):=by rw [hi];exact tmod_at s n k hk
 have hnz:¬ n=0:=by omega
 have hS16:S ≤ 16:=by have:=hR.may.sets;omega
 have hs0:(0:Int) ≤ (s:Int):=by omega
 have hs1:(s:Int) < (S:Int):=by omega
 have hs2:(s:Int) ≤ (S:Int):=by omega
 have hwk:wrap64 (k:Int)=(k:Int):=w64 _ (by omega) (by omega)
 have hws:wrap64 (s:Int)=(s:Int):=w64 _ (by omega) (by omega)
 rw [← hi]
 obtain ⟨⟨c9,cm,c2⟩,fr⟩:=HC.out w (grown_refl _ _)
 clear hR hp hmem hg hwl hm256 hi hk hW4 hlen hS16
 have HS:Hid (Us3 w.drew R.b R.gm S s m0 n):=qh (HC.out _ (grown_drew (grown_refl _ _))).1
 go_enter Tryz.func151,Tryz.ntmps151
 go_wp2
 go_region_held3 (fun w'=>w'.cell? ⟨R.b,9,none⟩=some (.slice (some ⟨R.gm,0,none⟩) S S)∧w'.cell? ⟨R.gm,s,none⟩=some (.int .u8 (m0:Int))∧w'.cell? ⟨R.b,2,none⟩=some (.int .i64 (n:Int)))
  (first | exact HS.out | exact Us3.more (by assumption) (by assumption))
  (first | (go_at_call 173;((with_reducible refine (HU.out _).mono ?_);rintro e w5 ⟨rfl,hg5⟩)))
 obtain ⟨⟨c9',cm',c2'⟩,fr'⟩:=HC.out w5 (grown_trans (grown_drew (grown_refl _ _)) hg5)
 have HE5:=qh (HE.out w5 (grown_trans (grown_drew (grown_refl _ _)) hg5))
 clear hg5
 go_wp2
 go_end0
 exact ⟨rfl,HE5.out⟩
end
end Go.Proofs.YtcoimipgilkmbaaGreatDoor.kk

namespace Go.Proofs.YtcoimipgilkmbaaGreatDoor.kk
set_option linter.unusedVariables false
set_option linter.unusedSimpArgs false
set_option maxRecDepth 1000000
set_option maxHeartbeats 16000000
open Go Go.ChangeShapes Go.WideShapes Go.ChangeAt Go.RowKit Go.Shelf
open Go.Proofs.YtcoimipgilkmbaaGreatDoor.tt (hb Cfg grown_refl)
theorem Rac.setLine {R:RLoc} {c:Cfg} {ss:List St} {w w':World} (h:Rac w R c ss) {s k:Nat} {p:St} (hp:ss[s]?=some p) (hk:k < p.1.length) (l:Ln) (hg:w.grownBy w' (some R.gl)) (hr:RowAt w' R.gl ((rowAll ss).set (s * p.1.length + k) l)) :
  Rac w' R c (ss.set s (p.1.set k l,p.2)):=by
 have hs:s < ss.length:=(List.getElem?_eq_some_iff.1 hp).1
 have hwl:=h.wid _ (List.mem_of_getElem? hp)
 obtain ⟨n1,n2,n3⟩:=h.ne
 have hb:=hg.block R.b (h.lt (.inl rfl)) (fun e=>n1 (Option.some.inj e).symm)
 have hm:=hg.block R.gm (h.lt (.inr (.inr rfl))) (fun e=>n3 (Option.some.inj e))
 have hset:rowAll (ss.set s (p.1.set k l,p.2))=(rowAll ss).set (s * p.1.length + k) l:=by
  rw [hwl]
  exact rowAll_set h.wid l hp (by omega)
 refine ⟨by rw [hset,List.length_set,List.length_set];exact hb.trans h.blk,by rw [hset];exact hr,?_,fun j p' hj=>?_,by rw [List.length_set];exact h.len,fun p' hp'=>?_,fun p' hp'=>?_,h.may⟩
 ·obtain ⟨cur,hc⟩:=h.mb;exact ⟨cur,hm.trans hc⟩
 ·rw [World.cell?_of_block (w:=w) (a:=⟨R.gm,j,none⟩) hm]
  by_cases hjs:j=s
  ·subst hjs
   rw [List.getElem?_set_self hs] at hj
   cases hj
   exact h.mem _ p hp
  ·rw [List.getElem?_set_ne (fun e=>hjs e.symm)] at hj
   exact h.mem j p' hj
 ·rcases List.mem_or_eq_of_mem_set hp' with hp' | rfl
  ·exact h.wid p' hp'
  ·rw [List.length_set];exact hwl
 ·rcases List.mem_or_eq_of_mem_set hp' with hp' | rfl
  ·exact h.mlt p' hp'
  ·exact h.mlt p (List.mem_of_getElem? hp)
section
variable (R:RLoc) (c:Cfg) (ss:List St) (w:World) (hR:Rac w R c ss) (hI:Inv c ss) (b:Int)
include hR hI
theorem rplace_no (hn:(setAt c ss b).1.findIdx? (isOf b)=none):Calls Tryz.prog 77 #[.pointer (some ⟨R.b,0,none⟩),.int .i64 b] w fun e w'=>e = .returned (.int .i64 (-1))∧w=w':=by
 have h:=rplace_any R c ss w hR b
 rw [ix,rowAll_place hI hR.wid hR.at b,hn] at h
 exact h
theorem rplace_yes (k:Nat) (hn:(setAt c ss b).1.findIdx? (isOf b)=some k):Calls Tryz.prog 77 #[.pointer (some ⟨R.b,0,none⟩),.int .i64 b] w fun e w'=>e = .returned (.int .i64 ((setOf c b * (setAt c ss b).1.length + k:Nat):Int))∧w=w':=by
 have h:=rplace_any R c ss w hR b
 rw [ix,rowAll_place hI hR.wid hR.at b,hn] at h
 rw [hR.wid _ (List.mem_of_getElem? (hR.at b))]
 exact h
theorem ruse_any (b:Int):Calls Tryz.prog 111 #[.pointer (some ⟨R.b,0,none⟩),.int .i64 b] w fun e w'=>e = .returned (.bool (cuse c ss b).2)∧Rac w' R c (cuse c ss b).1∧Kept R.own w w':=by
 unfold cuse
 cases hn:(setAt c ss b).1.findIdx? (isOf b) with
 | none=>
  have HN:=qh (rplace_no R c ss w hR hI b hn)
  have HR:=qh hR
  clear hR hI hn
  go_enter Tryz.func111,Tryz.ntmps111
  go_wp2_with (go_at_call 77;((with_reducible refine HN.out.mono ?_);rintro e w1 ⟨rfl,rfl⟩))
  go_ret
  exact ⟨rfl,HR.out,Kept.of (grown_refl _ _)⟩
 | some k=>
  have HN:=qh (rplace_yes R c ss w hR hI b k hn)
  have HU:=qh (rused_any R c ss w hR (setOf c b) k _ (hR.at b) (idx_lt hn))
  obtain ⟨i,hi⟩:∃ i,i=setOf c b * (setAt c ss b).1.length + k:=⟨_,rfl⟩
  rw [← hi] at HN HU
  have d0:decide ((i:Int) < 0)=false:=by simp
  clear hR hI hn hi
  go_enter Tryz.func111,Tryz.ntmps111
  go_wp2_with (first
   | (go_at_call 77;((with_reducible refine HN.out.mono ?_);rintro e w1 ⟨rfl,rfl⟩))
   | (go_at_call 151;((with_reducible refine HU.out.mono ?_);rintro e w2 ⟨rfl,h2⟩;have H2:=qh h2;clear h2)))
  go_ret
  exact ⟨rfl,H2.out⟩
theorem rdrop_any (b:Int):Calls Tryz.prog 110 #[.pointer (some ⟨R.b,0,none⟩),.int .i64 b] w fun e w'=>e = .returned (.bool (cdrop c ss b).2)∧Rac w' R c (cdrop c ss b).1∧Kept R.own w w':=by
 unfold cdrop
 cases hn:(setAt c ss b).1.findIdx? (isOf b) with
 | none=>
  have HN:=qh (rplace_no R c ss w hR hI b hn)
  have HR:=qh hR
  clear hR hI hn
  go_enter Tryz.func110,Tryz.ntmps110
  go_wp2_with (go_at_call 77;((with_reducible refine HN.out.mono ?_);rintro e w1 ⟨rfl,rfl⟩))
  go_ret
  exact ⟨rfl,HR.out,Kept.of (grown_refl _ _)⟩
 | some k=>
  have HN:=qh (rplace_yes R c ss w hR hI b k hn)
  have hlt:=idx_lt hn
  have c8:=hR.lines
  obtain ⟨i,hi⟩:∃ i,i=setOf c b * (setAt c ss b).1.length + k:=⟨_,rfl⟩
  have hin:i < (rowAll ss).length:=by
   have:=rowAll_get hR.wid (hR.at b) (List.getElem?_eq_getElem hlt)
   rw [hi,hR.wid _ (List.mem_of_getElem? (hR.at b))]
   exact (List.getElem?_eq_some_iff.1 this).1
  have HT:=qh (hR.row.there hin)
  have HE:Hid (Rac (w.setCells R.gl (i * 18) (ln zl)) R c (ss.set (setOf c b) ((setAt c ss b).1.set k zl,(setAt c ss b).2))∧Kept R.own w (w.setCells R.gl (i * 18) (ln zl))):=qh
   ⟨hR.setLine (hR.at b) hlt zl (grown_setCells _ _ _ _) (by rw [← hi];exact hR.row.store i hin zl),Kept.one (grown_setCells _ _ _ _) (.inl rfl)⟩
  rw [← hi] at HN
  have d0:decide ((i:Int) < 0)=false:=by simp
  generalize (rowAll ss).length=n at *
  clear hR hI hn hi hlt
  go_enter Tryz.func110,Tryz.ntmps110
  go_wp2_with (first
   | (go_at_call 77;((with_reducible refine HN.out.mono ?_);rintro e w1 ⟨rfl,rfl⟩))
   | ((with_reducible refine store_ln zl 17 16 R.gl (i * 18) ?_ ?_ HT.out ?_);((go_num));((rfl))))
  go_ret
  exact ⟨rfl,HE.out⟩
end
end Go.Proofs.YtcoimipgilkmbaaGreatDoor.kk

namespace Go.Proofs.YtcoimipgilkmbaaGreatDoor.kk
set_option linter.unusedVariables false
set_option linter.unusedSimpArgs false
set_option maxRecDepth 1000000
set_option maxHeartbeats 16000000
open Go Go.ChangeShapes Go.WideShapes Go.ChangeAt Go.RowKit Go.Shelf
open Go.Proofs.YtcoimipgilkmbaaGreatDoor.tt (Cfg grown_refl grown_alloc U)
section
variable (R:RLoc) (c:Cfg) (ss:List St) (w:World) (hR:Rac w R c ss) (hI:Inv c ss)
include hR hI
theorem rfind_any (b:Int):Calls Tryz.prog 32 #[.pointer (some ⟨R.b,0,none⟩),.int .i64 b] w fun e w'=>e = .returned (.tuple #[.agg (la (cfind c ss b).1),.bool (cfind c ss b).2])∧w.grownBy w' none:=by
 unfold cfind
 have hg0:w.grownBy (w.alloc (.cells (la zl) 50)) none:=grown_alloc (grown_refl _ _) _
 have HB:Hid (w.grownBy (w.alloc (.cells (la zl) 50)) none∧(w.alloc (.cells (la zl) 50)).heap[w.heap.size]?=some (.cells (la zl) 50 (0,0))):=qh ⟨hg0,heap_alloc_new _ _⟩
 have HZ:Hid (la zl=_):=qh zl_la
 cases hn:(setAt c ss b).1.findIdx? (isOf b) with
 | none=>
  have HN:=qh (rplace_no R c ss _ (hR.grown hg0) hI b hn)
  rw [HZ.out] at HN HB
  clear hR hI hn hg0
  go_enter Tryz.func32,Tryz.ntmps32
  go_wp2_with (first
   | (go_at_call 77;((with_reducible refine HN.out.mono ?_);rintro e w1 ⟨rfl,rfl⟩))
   | ((with_reducible refine store_any zl zl 4 12 w.heap.size ?_ ?_ ?_ ?_);((rfl));((rfl));((exact HB.out.2))))
  exact ret_ln rfl _ zl _ w.heap.size _ _ (by rfl) (by rfl) (range_of (setRow_heap _ _ _ _ _ _ HB.out.2)) (by exact ⟨rfl,grown_setRow HB.out.1 _ (Nat.le_refl _) _⟩)
 | some k=>
  have HN:=qh (rplace_yes R c ss _ (hR.grown hg0) hI b k hn)
  have hlt:=idx_lt hn
  have c8:=(hR.grown hg0).lines
  obtain ⟨l,hl⟩:∃ l,(setAt c ss b).1[k]?=some l:=⟨_,List.getElem?_eq_getElem hlt⟩
  have hgd:(setAt c ss b).1.getD k zl=l:=by rw [List.getD_eq_getElem?_getD,hl];rfl
  simp only [hgd]
  obtain ⟨i,hi⟩:∃ i,i=setOf c b * (setAt c ss b).1.length + k:=⟨_,rfl⟩
  have hfl:=rowAll_get hR.wid (hR.at b) hl
  rw [← hR.wid _ (List.mem_of_getElem? (hR.at b)),← hi] at hfl
  have hin:i < (rowAll ss).length:=(List.getElem?_eq_some_iff.1 hfl).1
  have HA:=qh ((hR.grown hg0).row.at_ i l hfl)
  rw [← hi] at HN
  have d0:decide ((i:Int) < 0)=false:=by simp
  rw [HZ.out] at HN HB HA c8
  generalize (rowAll ss).length=n at *
  clear hR hI hn hi hlt hl hgd hfl hg0
  go_enter Tryz.func32,Tryz.ntmps32
  go_wp2_with (first
   | (go_at_call 77;((with_reducible refine HN.out.mono ?_);rintro e w1 ⟨rfl,rfl⟩))
   | ((with_reducible refine load_ln l 18 R.gl (i * 18) ?_ HA.out ?_);((go_num)))
   | ((with_reducible refine store_any l zl 4 19 w.heap.size ?_ ?_ ?_ ?_);((rfl));((rfl));((exact HB.out.2))))
  exact ret_ln rfl _ l _ w.heap.size _ _ (by rfl) (by rfl) (range_of (setRow_heap _ _ _ _ _ _ HB.out.2)) (by exact ⟨rfl,grown_setRow HB.out.1 _ (Nat.le_refl _) _⟩)
theorem rturn_any (b s:Int):Calls Tryz.prog 158 #[.pointer (some ⟨R.b,0,none⟩),.int .i64 b,.int .u8 s] w fun e w'=>e = .returned (.int .i64 (cturn c ss b s).2)∧Rac w' R c (cturn c ss b s).1∧Kept R.own w w':=by
 unfold cturn
 cases hn:(setAt c ss b).1.findIdx? (isOf b) with
 | none=>
  have HN:=qh (rplace_no R c ss w hR hI b hn)
  have HR:=qh hR
  clear hR hI hn
  go_enter Tryz.func158,Tryz.ntmps158
  go_wp2_with (go_at_call 77;((with_reducible refine HN.out.mono ?_);rintro e w1 ⟨rfl,rfl⟩))
  go_ret
  exact ⟨rfl,HR.out,Kept.of (grown_refl _ _)⟩
 | some k=>
  have HN:=qh (rplace_yes R c ss w hR hI b k hn)
  have HR:=qh hR
  have hlt:=idx_lt hn
  have c8:=hR.lines
  obtain ⟨l,hl⟩:∃ l,(setAt c ss b).1[k]?=some l:=⟨_,List.getElem?_eq_getElem hlt⟩
  have hgd:(setAt c ss b).1.getD k zl=l:=by rw [List.getD_eq_getElem?_getD,hl];rfl
  simp only [hgd]
  obtain ⟨i,hi⟩:∃ i,i=setOf c b * (setAt c ss b).1.length + k:=⟨_,rfl⟩
  have hfl:=rowAll_get hR.wid (hR.at b) hl
  rw [← hR.wid _ (List.mem_of_getElem? (hR.at b)),← hi] at hfl
  have hin:i < (rowAll ss).length:=(List.getElem?_eq_some_iff.1 hfl).1
  have c1:=hR.row.at_ i l hfl 1 _ (ln1 l)
  have f1:=(hR.row.there hin 1 (by omega)).2
  have HE:Hid (Rac (w.setCell ⟨R.gl,i * 18 + 1,none⟩ (.int .u8 s)) R c (ss.set (setOf c b) ((setAt c ss b).1.set k (l.state s),(setAt c ss b).2))∧Kept R.own w (w.setCell ⟨R.gl,i * 18 + 1,none⟩ (.int .u8 s))):=qh
   ⟨hR.setLine (hR.at b) hlt (l.state s) (grown_setCell _ _ _ _) (by rw [← hi];exact hR.row.cell i hin l (l.state s) hfl 1 (by omega) _ rfl),Kept.one (grown_setCell _ _ _ _) (.inl rfl)⟩
  rw [← hi] at HN
  have d0:decide ((i:Int) < 0)=false:=by simp
  generalize (rowAll ss).length=n at *
  clear hR hI hn hi hlt hl hgd hfl
  by_cases h1:s < 1
  ·have e1:decide (s < 1)=true:=by simp;omega
   rw [if_neg (by omega)]
   clear h1
   go_enter Tryz.func158,Tryz.ntmps158
   go_wp2_with (go_at_call 77;((with_reducible refine HN.out.mono ?_);rintro e w1 ⟨rfl,rfl⟩))
   go_ret
   exact ⟨rfl,HR.out,Kept.of (grown_refl _ _)⟩
  ·have e1:decide (s < 1)=false:=by simp;omega
   by_cases h2:3 < s
   ·have e2:decide (3 < s)=true:=by simp;omega
    rw [if_neg (by omega)]
    clear h1 h2
    go_enter Tryz.func158,Tryz.ntmps158
    go_wp2_with (go_at_call 77;((with_reducible refine HN.out.mono ?_);rintro e w1 ⟨rfl,rfl⟩))
    go_ret
    exact ⟨rfl,HR.out,Kept.of (grown_refl _ _)⟩
   ·have e2:decide (3 < s)=false:=by simp;omega
    rw [if_pos (by omega)]
    clear h1 h2
    go_enter Tryz.func158,Tryz.ntmps158
    go_wp2_with (go_at_call 77;((with_reducible refine HN.out.mono ?_);rintro e w1 ⟨rfl,rfl⟩))
    go_ret
    exact ⟨rfl,HE.out⟩
theorem rwrite_any (b k x:Int):Calls Tryz.prog 113 #[.pointer (some ⟨R.b,0,none⟩),.int .i64 b,.int .i64 k,.int .u32 x] w fun e w'=>e = .returned (.int .i64 (cwrite c ss b k x).2)∧Rac w' R c (cwrite c ss b k x).1∧Kept R.own w w':=by
 unfold cwrite
 cases hn:(setAt c ss b).1.findIdx? (isOf b) with
 | none=>
  have HN:=qh (rplace_no R c ss w hR hI b hn)
  have HR:=qh hR
  clear hR hI hn
  go_enter Tryz.func113,Tryz.ntmps113
  go_wp2_with (go_at_call 77;((with_reducible refine HN.out.mono ?_);rintro e w1 ⟨rfl,rfl⟩))
  go_ret
  exact ⟨rfl,HR.out,Kept.of (grown_refl _ _)⟩
 | some j=>
  have HN:=qh (rplace_yes R c ss w hR hI b j hn)
  have HR:=qh hR
  have hlt:=idx_lt hn
  have c8:=hR.lines
  obtain ⟨l,hl⟩:∃ l,(setAt c ss b).1[j]?=some l:=⟨_,List.getElem?_eq_getElem hlt⟩
  have hgd:(setAt c ss b).1.getD j zl=l:=by rw [List.getD_eq_getElem?_getD,hl];rfl
  simp only [hgd]
  obtain ⟨i,hi⟩:∃ i,i=setOf c b * (setAt c ss b).1.length + j:=⟨_,rfl⟩
  have hfl:=rowAll_get hR.wid (hR.at b) hl
  rw [← hR.wid _ (List.mem_of_getElem? (hR.at b)),← hi] at hfl
  have hin:i < (rowAll ss).length:=(List.getElem?_eq_some_iff.1 hfl).1
  have c1:=hR.row.at_ i l hfl 1 _ (ln1 l)
  have d0:decide ((i:Int) < 0)=false:=by simp
  rw [← hi] at HN
  by_cases h1:0 ≤ k∧k < 16
  ·rw [if_pos h1]
   obtain ⟨m,rfl⟩:∃ m:Nat,k=(m:Int):=⟨k.toNat,by omega⟩
   have hm:m < 16:=by omega
   have e1:decide ((m:Int) < 0)=false:=by simp
   have e2:decide (15 < (m:Int))=false:=by simp;omega
   rw [Int.toNat_natCast]
   by_cases hs:l.s=1
   ·have es:(l.s == 1)=true:=by simp [hs]
    rw [if_pos hs]
    generalize (rowAll ss).length=n at *
    clear hR hI hn hi hlt hl hgd hfl h1 hs
    go_enter Tryz.func113,Tryz.ntmps113
    go_wp2_with (go_at_call 77;((with_reducible refine HN.out.mono ?_);rintro e w1 ⟨rfl,rfl⟩))
    go_ret
    exact ⟨rfl,HR.out,Kept.of (grown_refl _ _)⟩
   ·have es:(l.s == 1)=false:=by simp [hs]
    rw [if_neg hs]
    have f1:=(hR.row.there hin 1 (by omega)).2
    have f2:=(hR.row.there hin (2 + m) (by omega)).2
    obtain ⟨u,c2⟩:∃ u,w.cell? ⟨R.gl,i * 18 + (2 + m),none⟩=some u:=⟨_,hR.row.at_ i l hfl (2 + m) _ (List.getElem?_eq_getElem (by rw [ln_len];omega))⟩
    have hr1:=hR.row.cell i hin l (l.word m x) hfl (2 + m) (by omega) (U x) (ln_word l m x)
    have hl1:((rowAll ss).set i (l.word m x))[i]?=some (l.word m x):=List.getElem?_set_self hin
    have hr2:=hr1.cell i (by simpa using hin) (l.word m x) ((l.word m x).state 3) hl1 1 (by omega) (.int .u8 3) rfl
    rw [set_set_row] at hr2
    have c3:=hr1.at_ i _ hl1 1 _ (ln1 _)
    have hg12:w.grownBy ((w.setCell ⟨R.gl,i * 18 + (2 + m),none⟩ (U x)).setCell ⟨R.gl,i * 18 + 1,none⟩ (.int .u8 3)) (some R.gl):=by
     have a1:=grown_setCell w R.gl (i * 18 + (2 + m)) (U x)
     have a2:=grown_setCell (w.setCell ⟨R.gl,i * 18 + (2 + m),none⟩ (U x)) R.gl (i * 18 + 1) (.int .u8 3)
     exact ⟨a2.os.trans a1.os,a2.tape.trans a1.tape,a2.output.trans a1.output,Nat.le_trans a1.size a2.size,fun q hq hne=>(a2.block q (Nat.lt_of_lt_of_le hq a1.size) hne).trans (a1.block q hq hne)⟩
    have hR2:=hR.setLine (hR.at b) hlt ((l.word m x).state 3) hg12 (by rw [← hi];exact hr2)
    have hsl:setOf c b < ss.length:=(List.getElem?_eq_some_iff.1 (hR.at b)).1
    have hu:=rused_any R c _ _ hR2 (setOf c b) j _ (List.getElem?_set_self hsl) (by simpa using hlt)
    simp only [set_set_row,List.length_set] at hu
    rw [← hi] at hu
    have HU:=qh (hu.mono fun e w' h=>(⟨h.1,h.2.1,(Kept.one hg12 (.inl rfl)).trans h.2.2⟩:_∧_∧Kept R.own w w'))
    have c8b:=(grown_setCell w R.gl (i * 18 + (2 + m)) (U x)).cell c8 (fun e=>hR.ne.1 (Option.some.inj e).symm)
    rw [← Nat.add_assoc] at *
    unfold U at HU c3 c8b
    generalize (rowAll ss).length=n at *
    clear hR hI hn hi hlt hl hgd hfl h1 hs hr1 hr2 hl1 hg12 hR2 hsl hu
    go_enter Tryz.func113,Tryz.ntmps113
    go_wp2_with (first
     | (go_at_call 77;((with_reducible refine HN.out.mono ?_);rintro e w1 ⟨rfl,rfl⟩))
     | (go_at_call 151;((with_reducible refine HU.out.mono ?_);rintro e w2 ⟨rfl,h2⟩;have H2:=qh h2;clear h2)))
    go_ret
    exact ⟨rfl,H2.out⟩
  ·rw [if_neg h1]
   generalize (rowAll ss).length=n at *
   by_cases h0:k < 0
   ·have e1:decide (k < 0)=true:=by simp;omega
    clear hR hI hn hi hlt hl hgd hfl h1 h0
    go_enter Tryz.func113,Tryz.ntmps113
    go_wp2_with (go_at_call 77;((with_reducible refine HN.out.mono ?_);rintro e w1 ⟨rfl,rfl⟩))
    go_ret
    exact ⟨rfl,HR.out,Kept.of (grown_refl _ _)⟩
   ·have e1:decide (k < 0)=false:=by simp;omega
    have e2:decide (15 < k)=true:=by simp;omega
    clear hR hI hn hi hlt hl hgd hfl h1 h0
    go_enter Tryz.func113,Tryz.ntmps113
    go_wp2_with (go_at_call 77;((with_reducible refine HN.out.mono ?_);rintro e w1 ⟨rfl,rfl⟩))
    go_ret
    exact ⟨rfl,HR.out,Kept.of (grown_refl _ _)⟩
end
end Go.Proofs.YtcoimipgilkmbaaGreatDoor.kk

namespace Go.Proofs.YtcoimipgilkmbaaGreatDoor.kk
set_option linter.unusedVariables false
set_option linter.unusedSimpArgs false
set_option maxRecDepth 1000000
set_option maxHeartbeats 16000000
open Go Go.ChangeShapes Go.WideShapes Go.ChangeAt Go.RowKit Go.Shelf
open Go.Proofs.YtcoimipgilkmbaaGreatDoor.tt (Cfg grown_refl grown_drew grown_trans grown_alloc)
theorem rlmay_any (l:Ln) (w:World):Calls Tryz.prog 153 #[.agg (la l)] w fun e w'=>e = .returned (.bool (decide l.may))∧w.grownBy w' none:=by
 obtain ⟨h0,h1⟩:=box_ln w l
 have HG:Hid (w.grownBy (w.alloc (.cells (la l) 50)) none):=qh (grown_alloc (grown_refl _ _) _)
 have HM:Hid (∀ x:Bool,(x=true ↔ l.may)→x=decide l.may):=qh (fun x h=>by cases x <;> simp_all)
 unfold Ln.may at HM
 have fin:∀ (P:Prop),(∀ a b c d:Bool,decide (0 ≤ l.b)=a→decide (l.b ≤ 255)=b→decide (1 ≤ l.s)=c→decide (l.s ≤ 3)=d→P)→P:=fun P h=>h _ _ _ _ rfl rfl rfl rfl
 refine fin _ (fun a b c d e1 e2 e3 e4=>?_)
 have HF:Hid ((a && b && c && d)=decide l.may):=qh (HM.out _ (by
  rw [← e1,← e2,← e3,← e4]
  simp only [Bool.and_eq_true,decide_eq_true_eq]
  omega))
 clear fin HM
 cases a
 ·rw [show (false && b && c && d)=false by simp] at HF
  rw [← HF.out]
  go_enter Tryz.func153,Tryz.ntmps153
  go_wp2
  go_ret
  exact ⟨rfl,HG.out⟩
 cases b
 ·rw [show (true && false && c && d)=false by simp] at HF
  rw [← HF.out]
  go_enter Tryz.func153,Tryz.ntmps153
  go_wp2
  go_ret
  exact ⟨rfl,HG.out⟩
 cases c
 ·rw [show (true && true && false && d)=false by simp] at HF
  rw [← HF.out]
  go_enter Tryz.func153,Tryz.ntmps153
  go_wp2
  go_ret
  exact ⟨rfl,HG.out⟩
 rw [show (true && true && true && d)=d by simp] at HF
 rw [← HF.out]
 go_enter Tryz.func153,Tryz.ntmps153
 go_wp2
 go_ret
 exact ⟨rfl,HG.out⟩
theorem kept2 {w1:World} {b o B g o2 n:Nat} {v:Value} {l:Ln} (c1:w1.cell? ⟨b,o,none⟩=some v) (hr:w1.rangeAt B 0 (ln l)) (ht:w1.there g o2 18) (h1:b ≠ g) (h2:B ≠ g) :
  (w1.drew.setCells g o2 (ln l)).cell? ⟨b,o,none⟩=some v∧(w1.drew.setCells g o2 (ln l)).rangeAt B 0 (ln l)∧(w1.drew.setCells g o2 (ln l)).there g o2 18:=kept3 c1 hr ht h1 h2
section
variable (R:RLoc) (c:Cfg) (ss:List St) (w:World) (hR:Rac w R c ss) (hI:Inv c ss)
include hR hI
omit hR hI in
theorem rput_bad (l:Ln) (hl:¬ l.may):Calls Tryz.prog 116 #[.pointer (some ⟨R.b,0,none⟩),.agg (la l)] w fun e w'=>e = .returned (.int .i64 2)∧w.grownBy w' none:=by
 have HM:=qh (rlmay_any l (w.alloc (.cells (la l) 50)))
 rw [decide_eq_false hl] at HM
 have HR:=qh (range_of (heap_alloc_new w (.cells (la l) 50)))
 have HG:Hid (w.grownBy (w.alloc (.cells (la l) 50)) none):=qh (grown_alloc (grown_refl _ _) _)
 clear hl
 go_enter Tryz.func116,Tryz.ntmps116
 go_wp2_with (first
  | ((with_reducible refine load_ln l 3 w.heap.size 0 ?_ HR.out ?_);((rfl)))
  | (go_at_call 153;((with_reducible refine HM.out.mono ?_);rintro e w1 ⟨rfl,hg1⟩;have HG1:=qh hg1;clear hg1)))
 go_ret
 exact ⟨rfl,grown_trans HG.out HG1.out⟩
omit hI in
theorem rput_at (l:Ln) (k:Nat) (hk:k < (setAt c ss l.b).1.length) (w1:World) (hg:w.grownBy w1 none):Calls Tryz.prog 151 #[.pointer (some ⟨R.b,0,none⟩),.int .i64 ((setOf c l.b * (setAt c ss l.b).1.length + k:Nat):Int)] (w1.setCells R.gl ((setOf c l.b * (setAt c ss l.b).1.length + k) * 18) (ln l)) fun e w'=>
  e = .returned (.tuple #[])∧Rac w' R c (ss.set (setOf c l.b) ((setAt c ss l.b).1.set k l,us (setAt c ss l.b).2 (setAt c ss l.b).1.length k))∧Kept R.own w w':=by
 have h1:=hR.grown hg
 have hin:setOf c l.b * (setAt c ss l.b).1.length + k < (rowAll ss).length:=by
  have:=rowAll_get hR.wid (hR.at l.b) (List.getElem?_eq_getElem hk)
  rw [hR.wid _ (List.mem_of_getElem? (hR.at l.b))]
  exact (List.getElem?_eq_some_iff.1 this).1
 have h2:=h1.setLine (hR.at l.b) hk l (grown_setCells _ _ _ _) (h1.row.store _ hin l)
 have hsl:setOf c l.b < ss.length:=(List.getElem?_eq_some_iff.1 (hR.at l.b)).1
 have hu:=rused_any R c _ _ h2 (setOf c l.b) k _ (List.getElem?_set_self hsl) (by simpa using hk)
 simp only [set_set_row,List.length_set] at hu
 exact hu.mono fun e w' h=>⟨h.1,h.2.1,((Kept.of hg).trans (Kept.one (grown_setCells _ _ _ _) (.inl rfl))).trans h.2.2⟩
omit hI in
theorem rfree_yes (b:Int) (k:Nat) (hf:(setAt c ss b).1.findIdx? isFree=some k):Calls Tryz.prog 148 #[.pointer (some ⟨R.b,0,none⟩),.int .i64 b] w fun e w'=>e = .returned (.int .i64 ((setOf c b * (setAt c ss b).1.length + k:Nat):Int))∧w.grownBy w' none:=by
 have h:=rfree_any R c ss w hR b
 rw [hf,← hR.wid _ (List.mem_of_getElem? (hR.at b))] at h
 exact h
omit hI in
theorem rfree_no (b:Int) (hf:(setAt c ss b).1.findIdx? isFree=none):Calls Tryz.prog 148 #[.pointer (some ⟨R.b,0,none⟩),.int .i64 b] w fun e w'=>e = .returned (.int .i64 (-1))∧w.grownBy w' none:=by
 have h:=rfree_any R c ss w hR b
 rw [hf] at h
 exact h
theorem rput_old (l:Ln) (hl:l.may) (k:Nat) (hn:(setAt c ss l.b).1.findIdx? (isOf l.b)=some k):Calls Tryz.prog 116 #[.pointer (some ⟨R.b,0,none⟩),.agg (la l)] w fun e w'=>e = .returned (.int .i64 0)∧Rac w' R c (ss.set (setOf c l.b) ((setAt c ss l.b).1.set k l,us (setAt c ss l.b).2 (setAt c ss l.b).1.length k))∧Kept R.own w w':=by
 have HM:=qh (rlmay_any l (w.alloc (.cells (la l) 50)))
 rw [decide_eq_true hl] at HM
 obtain ⟨h0,h1⟩:=box_ln w l
 have HR:=qh (range_of (heap_alloc_new w (.cells (la l) 50)))
 have hg0:w.grownBy (w.alloc (.cells (la l) 50)) none:=grown_alloc (grown_refl _ _) _
 have HN:Hid (∀ w1,(w.alloc (.cells (la l) 50)).grownBy w1 none→_):=qh fun w1 hg=>rplace_yes R c ss w1 (hR.grown (grown_trans hg0 hg)) hI l.b k hn
 have HP:Hid (∀ w1,(w.alloc (.cells (la l) 50)).grownBy w1 none→_):=qh fun w1 hg=>rput_at R c ss w hR l k (idx_lt hn) w1 (grown_trans hg0 hg)
 obtain ⟨i,hi⟩:∃ i,i=setOf c l.b * (setAt c ss l.b).1.length + k:=⟨_,rfl⟩
 have hin:i < (rowAll ss).length:=by
  have:=rowAll_get hR.wid (hR.at l.b) (List.getElem?_eq_getElem (idx_lt hn))
  rw [hi,hR.wid _ (List.mem_of_getElem? (hR.at l.b))]
  exact (List.getElem?_eq_some_iff.1 this).1
 rw [← hi] at HN HP
 have HX:Hid (∀ w1,(w.alloc (.cells (la l) 50)).grownBy w1 none→w1.cell? ⟨w.heap.size,0,none⟩=some (.int .i64 l.b)∧w1.cell? ⟨R.b,8,none⟩=some (.slice (some ⟨R.gl,0,none⟩) (rowAll ss).length (rowAll ss).length)∧w1.rangeAt w.heap.size 0 (ln l)∧w1.there R.gl (i * 18) 18):=qh fun w1 hg=>
  ⟨hg.cell h0 (by simp),(hR.grown (grown_trans hg0 hg)).lines,range_of (box_grown hg),(hR.grown (grown_trans hg0 hg)).row.there hin⟩
 have hne:=hR.ne.1
 have hltg:=hR.row.lt
 have d0:decide ((i:Int) < 0)=false:=by simp
 have hi0:(0:Int) ≤ (i:Int):=by omega
 have hi1:(i:Int) < ((rowAll ss).length:Int):=by omega
 generalize (rowAll ss).length=n at *
 clear hR hI hl hn hi hg0 hin h1
 go_enter Tryz.func116,Tryz.ntmps116
 go_wp2_with (first
  | ((with_reducible refine load_ln l 3 w.heap.size 0 ?_ HR.out ?_);((rfl)))
  | (go_at_call 153;((with_reducible refine HM.out.mono ?_);rintro e w1 ⟨rfl,hg1⟩;have HG1:=qh hg1;obtain ⟨b0,c8,hr,ht⟩:=HX.out w1 hg1;clear hg1))
  | (go_at_call 77;((with_reducible refine (HN.out _ HG1.out).mono ?_);rintro e w2 ⟨rfl,rfl⟩)))
 have HK:=qh (kept2 (n:=n) c8 hr ht (fun e=>hne e.symm) (by omega))
 have HG2:Hid (w1.grownBy w1.drew none):=qh (grown_drew (grown_refl _ _))
 obtain ⟨t,nn,HTT,hagg,hsize,hld,hsz,hst⟩:=named2
 have hsz:=hsz l
 have hst:=hst R.gl (i * 18) l
 have hld:=hld w.heap.size 0 l
 rw [HTT.out.1,HTT.out.2]
 go_region_held (fun w'=>w'.cell? ⟨R.b,8,none⟩=some (.slice (some ⟨R.gl,0,none⟩) n n)∧w'.rangeAt w.heap.size 0 (ln l)∧w'.there R.gl (i * 18) 18) (first | exact ⟨c8,hr,ht⟩ | exact HK.out) (fail)
 go_wp2_with (first
  | (go_at_call 151;((with_reducible refine (HP.out _ (grown_trans HG1.out HG2.out)).mono ?_);rintro e w2 ⟨rfl,h2⟩;have H2:=qh h2;clear h2)))
 go_ret
 exact ⟨rfl,H2.out⟩
theorem rput_free (l:Ln) (hl:l.may) (k:Nat) (hn:(setAt c ss l.b).1.findIdx? (isOf l.b)=none) (hf:(setAt c ss l.b).1.findIdx? isFree=some k):Calls Tryz.prog 116 #[.pointer (some ⟨R.b,0,none⟩),.agg (la l)] w fun e w'=>e = .returned (.int .i64 0)∧Rac w' R c (ss.set (setOf c l.b) ((setAt c ss l.b).1.set k l,us (setAt c ss l.b).2 (setAt c ss l.b).1.length k))∧Kept R.own w w':=by
 have HM:=qh (rlmay_any l (w.alloc (.cells (la l) 50)))
 rw [decide_eq_true hl] at HM
 obtain ⟨h0,h1⟩:=box_ln w l
 have HR:=qh (range_of (heap_alloc_new w (.cells (la l) 50)))
 have hg0:w.grownBy (w.alloc (.cells (la l) 50)) none:=grown_alloc (grown_refl _ _) _
 have HN:Hid (∀ w1,(w.alloc (.cells (la l) 50)).grownBy w1 none→_):=qh fun w1 hg=>rplace_no R c ss w1 (hR.grown (grown_trans hg0 hg)) hI l.b hn
 have HF:Hid (∀ w1,(w.alloc (.cells (la l) 50)).grownBy w1 none→_):=qh fun w1 hg=>rfree_yes R c ss w1 (hR.grown (grown_trans hg0 hg)) l.b k hf
 have HP:Hid (∀ w1,(w.alloc (.cells (la l) 50)).grownBy w1 none→_):=qh fun w1 hg=>rput_at R c ss w hR l k (idx_lt hf) w1 (grown_trans hg0 hg)
 obtain ⟨i,hi⟩:∃ i,i=setOf c l.b * (setAt c ss l.b).1.length + k:=⟨_,rfl⟩
 have hin:i < (rowAll ss).length:=by
  have:=rowAll_get hR.wid (hR.at l.b) (List.getElem?_eq_getElem (idx_lt hf))
  rw [hi,hR.wid _ (List.mem_of_getElem? (hR.at l.b))]
  exact (List.getElem?_eq_some_iff.1 this).1
 rw [← hi] at HF HP
 have HX:Hid (∀ w1,(w.alloc (.cells (la l) 50)).grownBy w1 none→w1.cell? ⟨w.heap.size,0,none⟩=some (.int .i64 l.b)∧w1.cell? ⟨R.b,8,none⟩=some (.slice (some ⟨R.gl,0,none⟩) (rowAll ss).length (rowAll ss).length)∧w1.rangeAt w.heap.size 0 (ln l)∧w1.there R.gl (i * 18) 18):=qh fun w1 hg=>
  ⟨hg.cell h0 (by simp),(hR.grown (grown_trans hg0 hg)).lines,range_of (box_grown hg),(hR.grown (grown_trans hg0 hg)).row.there hin⟩
 have hne:=hR.ne.1
 have hltg:=hR.row.lt
 have d0:decide ((i:Int) < 0)=false:=by simp
 have hi0:(0:Int) ≤ (i:Int):=by omega
 have hi1:(i:Int) < ((rowAll ss).length:Int):=by omega
 generalize (rowAll ss).length=n at *
 clear hR hI hl hn hf hi hg0 hin h1
 go_enter Tryz.func116,Tryz.ntmps116
 go_wp2_with (first
  | ((with_reducible refine load_ln l 3 w.heap.size 0 ?_ HR.out ?_);((rfl)))
  | (go_at_call 153;((with_reducible refine HM.out.mono ?_);rintro e w1 ⟨rfl,hg1⟩;have HG1:=qh hg1;obtain ⟨b0,c8,hr,ht⟩:=HX.out w1 hg1;clear hg1))
  | (go_at_call 77;((with_reducible refine (HN.out _ HG1.out).mono ?_);rintro e w2 ⟨rfl,rfl⟩))
  | (go_at_call 148;((with_reducible refine (HF.out _ HG1.out).mono ?_);rintro e w3 ⟨rfl,hg3⟩;have HG3:=qh (grown_trans HG1.out hg3);obtain ⟨b0',c8',hr',ht'⟩:=HX.out w3 HG3.out;clear b0 c8 hr ht hg3)))
 have HK:=qh (kept2 (n:=n) c8' hr' ht' (fun e=>hne e.symm) (by omega))
 have HG2:Hid (w3.grownBy w3.drew none):=qh (grown_drew (grown_refl _ _))
 obtain ⟨t,nn,HTT,hagg,hsize,hld,hsz,hst⟩:=named2
 have hsz:=hsz l
 have hst:=hst R.gl (i * 18) l
 have hld:=hld w.heap.size 0 l
 rw [HTT.out.1,HTT.out.2]
 go_region_held (fun w'=>w'.cell? ⟨R.b,8,none⟩=some (.slice (some ⟨R.gl,0,none⟩) n n)∧w'.rangeAt w.heap.size 0 (ln l)∧w'.there R.gl (i * 18) 18) (first | exact ⟨c8',hr',ht'⟩ | exact HK.out) (fail)
 go_wp2_with (first
  | (go_at_call 151;((with_reducible refine (HP.out _ (grown_trans HG3.out HG2.out)).mono ?_);rintro e w2 ⟨rfl,h2⟩;have H2:=qh h2;clear h2)))
 go_ret
 exact ⟨rfl,H2.out⟩
theorem rput_full (l:Ln) (hl:l.may) (hn:(setAt c ss l.b).1.findIdx? (isOf l.b)=none) (hf:(setAt c ss l.b).1.findIdx? isFree=none):Calls Tryz.prog 116 #[.pointer (some ⟨R.b,0,none⟩),.agg (la l)] w fun e w'=>e = .returned (.int .i64 7)∧w.grownBy w' none:=by
 have HM:=qh (rlmay_any l (w.alloc (.cells (la l) 50)))
 rw [decide_eq_true hl] at HM
 obtain ⟨h0,h1⟩:=box_ln w l
 have HR:=qh (range_of (heap_alloc_new w (.cells (la l) 50)))
 have hg0:w.grownBy (w.alloc (.cells (la l) 50)) none:=grown_alloc (grown_refl _ _) _
 have HN:Hid (∀ w1,(w.alloc (.cells (la l) 50)).grownBy w1 none→_):=qh fun w1 hg=>rplace_no R c ss w1 (hR.grown (grown_trans hg0 hg)) hI l.b hn
 have HF:Hid (∀ w1,(w.alloc (.cells (la l) 50)).grownBy w1 none→_):=qh fun w1 hg=>rfree_no R c ss w1 (hR.grown (grown_trans hg0 hg)) l.b hf
 have HG0:=qh hg0
 have HX:Hid (∀ w1,(w.alloc (.cells (la l) 50)).grownBy w1 none→w1.cell? ⟨w.heap.size,0,none⟩=some (.int .i64 l.b)):=qh fun w1 hg=>hg.cell h0 (by simp)
 clear hR hI hl hn hf hg0 h1
 go_enter Tryz.func116,Tryz.ntmps116
 go_wp2_with (first
  | ((with_reducible refine load_ln l 3 w.heap.size 0 ?_ HR.out ?_);((rfl)))
  | (go_at_call 153;((with_reducible refine HM.out.mono ?_);rintro e w1 ⟨rfl,hg1⟩;have HG1:=qh hg1;have b0:=HX.out w1 hg1;clear hg1))
  | (go_at_call 77;((with_reducible refine (HN.out _ HG1.out).mono ?_);rintro e w2 ⟨rfl,rfl⟩))
  | (go_at_call 148;((with_reducible refine (HF.out _ HG1.out).mono ?_);rintro e w3 ⟨rfl,hg3⟩;have HG3:=qh (grown_trans HG1.out hg3);clear hg3)))
 go_ret
 exact ⟨rfl,grown_trans HG0.out HG3.out⟩
theorem rput_any (l:Ln):Calls Tryz.prog 116 #[.pointer (some ⟨R.b,0,none⟩),.agg (la l)] w fun e w'=>e = .returned (.int .i64 (cput c ss l).2)∧Rac w' R c (cput c ss l).1∧Kept R.own w w':=by
 unfold cput
 by_cases hl:l.may
 ·simp only [if_pos hl]
  unfold wayFor
  cases hn:(setAt c ss l.b).1.findIdx? (isOf l.b) with
  | some i=>exact rput_old R c ss w hR hI l hl i hn
  | none=>
   simp only []
   cases hf:(setAt c ss l.b).1.findIdx? isFree with
   | some i=>exact rput_free R c ss w hR hI l hl i hn hf
   | none=>exact (rput_full R c ss w hR hI l hl hn hf).mono fun e w' h=>⟨h.1,hR.grown h.2,Kept.of h.2⟩
 ·simp only [if_neg hl]
  exact (rput_bad R w l hl).mono fun e w' h=>⟨h.1,hR.grown h.2,Kept.of h.2⟩
end
end Go.Proofs.YtcoimipgilkmbaaGreatDoor.kk

namespace Go.Proofs.YtcoimipgilkmbaaGreatDoor.kk
set_option linter.unusedVariables false
set_option linter.unusedSimpArgs false
set_option maxRecDepth 1000000
set_option maxHeartbeats 16000000
open Go Go.ChangeShapes Go.WideShapes Go.ChangeAt Go.RowKit Go.Shelf
open Go.Proofs.YtcoimipgilkmbaaGreatDoor.tt (hb Cfg grown_refl grown_alloc)
theorem rgoes_bad (kb:Nat) (b:Int) (w:World) (hb:¬ (0 ≤ b∧b < 256)):Calls Tryz.prog 107 #[.pointer (some ⟨kb,0,none⟩),.int .i64 b] w fun e w'=>e = .returned (.tuple #[.agg (la zl),.bool false])∧w.grownBy w' none:=by
 have HB:Hid (w.grownBy (w.alloc (.cells (la zl) 50)) none∧(w.alloc (.cells (la zl) 50)).heap[w.heap.size]?=some (.cells (la zl) 50 (0,0))):=qh ⟨grown_alloc (grown_refl _ _) _,heap_alloc_new _ _⟩
 have HZ:Hid (la zl=_):=qh zl_la
 rw [HZ.out] at HB
 by_cases h0:b < 0
 ·have d0:decide (b < 0)=true:=by simp;omega
  clear hb h0
  go_enter Tryz.func107,Tryz.ntmps107
  go_wp2_with (first
   | ((with_reducible refine store_any zl zl 4 27 w.heap.size ?_ ?_ ?_ ?_);((rfl));((rfl));((exact HB.out.2))))
  exact ret_ln rfl _ zl _ w.heap.size _ _ (by rfl) (by rfl) (range_of (setRow_heap _ _ _ _ _ _ HB.out.2)) (by exact ⟨rfl,grown_setRow HB.out.1 _ (Nat.le_refl _) _⟩)
 ·have d0:decide (b < 0)=false:=by simp;omega
  have d1:decide (255 < b)=true:=by simp;omega
  clear hb h0
  go_enter Tryz.func107,Tryz.ntmps107
  go_wp2_with (first
   | ((with_reducible refine store_any zl zl 4 27 w.heap.size ?_ ?_ ?_ ?_);((rfl));((rfl));((exact HB.out.2))))
  exact ret_ln rfl _ zl _ w.heap.size _ _ (by rfl) (by rfl) (range_of (setRow_heap _ _ _ _ _ _ HB.out.2)) (by exact ⟨rfl,grown_setRow HB.out.1 _ (Nat.le_refl _) _⟩)
section
variable (R:RLoc) (c:Cfg) (ss:List St) (w:World) (hR:Rac w R c ss) (hI:Inv c ss) (b:Int) (hb:0 ≤ b∧b < 256)
include hR hI hb
theorem rgoes_old (k:Nat) (hn:(setAt c ss b).1.findIdx? (isOf b)=some k):Calls Tryz.prog 107 #[.pointer (some ⟨R.b,0,none⟩),.int .i64 b] w fun e w'=>e = .returned (.tuple #[.agg (la zl),.bool false])∧w.grownBy w' none:=by
 have hg0:w.grownBy (w.alloc (.cells (la zl) 50)) none:=grown_alloc (grown_refl _ _) _
 have HB:Hid (w.grownBy (w.alloc (.cells (la zl) 50)) none∧(w.alloc (.cells (la zl) 50)).heap[w.heap.size]?=some (.cells (la zl) 50 (0,0))):=qh ⟨hg0,heap_alloc_new _ _⟩
 have HN:=qh (rplace_yes R c ss _ (hR.grown hg0) hI b k hn)
 have HZ:Hid (la zl=_):=qh zl_la
 rw [HZ.out] at HB HN
 have d0:decide (b < 0)=false:=by simp;omega
 have d1:decide (255 < b)=false:=by simp;omega
 obtain ⟨i,hi⟩:∃ i,i=setOf c b * (setAt c ss b).1.length + k:=⟨_,rfl⟩
 rw [← hi] at HN
 have d2:decide ((0:Int) ≤ (i:Int))=true:=by simp
 clear hR hI hb hn hi hg0
 go_enter Tryz.func107,Tryz.ntmps107
 go_wp2_with (first
  | (go_at_call 77;((with_reducible refine HN.out.mono ?_);rintro e w1 ⟨rfl,rfl⟩))
  | ((with_reducible refine store_any zl zl 4 27 w.heap.size ?_ ?_ ?_ ?_);((rfl));((rfl));((exact HB.out.2))))
 exact ret_ln rfl _ zl _ w.heap.size _ _ (by rfl) (by rfl) (range_of (setRow_heap _ _ _ _ _ _ HB.out.2)) (by exact ⟨rfl,grown_setRow HB.out.1 _ (Nat.le_refl _) _⟩)
theorem rgoes_free (k:Nat) (hn:(setAt c ss b).1.findIdx? (isOf b)=none) (hf:(setAt c ss b).1.findIdx? isFree=some k):Calls Tryz.prog 107 #[.pointer (some ⟨R.b,0,none⟩),.int .i64 b] w fun e w'=>e = .returned (.tuple #[.agg (la zl),.bool false])∧w.grownBy w' none:=by
 have hg0:w.grownBy (w.alloc (.cells (la zl) 50)) none:=grown_alloc (grown_refl _ _) _
 have HN:=qh (rplace_no R c ss _ (hR.grown hg0) hI b hn)
 have HF:=qh (rfree_yes R c ss _ (hR.grown hg0) b k hf)
 have HO:Hid (∀ w1,(w.alloc (.cells (la zl) 50)).grownBy w1 none→_):=qh fun w1 hg=>own_after hg
 have HZ:Hid (la zl=_):=qh zl_la
 rw [HZ.out] at HO HN HF
 have d0:decide (b < 0)=false:=by simp;omega
 have d1:decide (255 < b)=false:=by simp;omega
 obtain ⟨i,hi⟩:∃ i,i=setOf c b * (setAt c ss b).1.length + k:=⟨_,rfl⟩
 rw [← hi] at HF
 have d2:decide ((0:Int) ≤ (i:Int))=true:=by simp
 clear hR hI hb hn hf hi hg0
 go_enter Tryz.func107,Tryz.ntmps107
 go_wp2_with (first
  | (go_at_call 77;((with_reducible refine HN.out.mono ?_);rintro e w1 ⟨rfl,rfl⟩))
  | (go_at_call 148;((with_reducible refine HF.out.mono ?_);rintro e w2 ⟨rfl,hg2⟩;have HG1:=qh (HO.out _ hg2);clear hg2))
  | ((with_reducible refine store_any zl zl 4 27 w.heap.size ?_ ?_ ?_ ?_);((rfl));((rfl));((exact HG1.out.1))))
 exact ret_ln rfl _ zl _ w.heap.size _ _ (by rfl) (by rfl) (range_of (setRow_heap _ _ _ _ _ _ HG1.out.1)) (by exact ⟨rfl,grown_setRow HG1.out.2 _ (Nat.le_refl _) _⟩)
end
end Go.Proofs.YtcoimipgilkmbaaGreatDoor.kk

namespace Go.Proofs.YtcoimipgilkmbaaGreatDoor.kk
set_option linter.unusedVariables false
set_option linter.unusedSimpArgs false
set_option maxRecDepth 1000000
set_option maxHeartbeats 16000000
open Go Go.ChangeShapes Go.WideShapes Go.ChangeAt Go.RowKit Go.Shelf
open Go.Proofs.YtcoimipgilkmbaaGreatDoor.tt (hb Cfg CfgAt grown_refl grown_drew grown_trans grown_alloc)
theorem wrap_two (s n v sn:Nat) (h:sn ≤ 64) (hs:(s:Int) * (n:Int)=(sn:Int)) (hv:v ≤ 64):IntKind.i64.wrap ((s:Int) * (n:Int))=(sn:Int)∧IntKind.i64.wrap ((sn:Int) + (v:Int))=(sn:Int) + (v:Int):=by
 rw [hs];exact ⟨IntWalk.i64_in _ (by omega),IntWalk.i64_in _ (by omega)⟩
theorem kept5 {w1:World} {b o o' g B o2:Nat} {v v':Value} {l l':Ln} (c1:w1.cell? ⟨b,o,none⟩=some v) (c2:w1.cell? ⟨b,o',none⟩=some v') (hr:w1.rangeAt g o2 (ln l)) (ht:w1.there B 0 18) (h1:b ≠ B) (h2:g ≠ B) :
  (w1.drew.setCells B 0 (ln l')).cell? ⟨b,o,none⟩=some v∧(w1.drew.setCells B 0 (ln l')).cell? ⟨b,o',none⟩=some v'∧(w1.drew.setCells B 0 (ln l')).rangeAt g o2 (ln l)∧(w1.drew.setCells B 0 (ln l')).there B 0 18:=
 ⟨(World.cell?_of_block (w:=w1) (heap_setCells_other B b h1 _ _ _)).trans c1,(World.cell?_of_block (w:=w1) (heap_setCells_other B b h1 _ _ _)).trans c2,range_same hr (heap_setCells_other B g h2 _ _ _),World.there_setCells (w:=w1.drew) (show w1.drew.there B 0 18 from ht) _ _ _⟩
section
variable (R:RLoc) (c:Cfg) (ss:List St) (w:World) (hR:Rac w R c ss) (hI:Inv c ss) (b:Int) (hb:0 ≤ b∧b < 256)
include hR hI hb
theorem rgoes_some (l:Ln) (hn:(setAt c ss b).1.findIdx? (isOf b)=none) (hf:(setAt c ss b).1.findIdx? isFree=none) (hl:(setAt c ss b).1[vc (setAt c ss b).2 (setAt c ss b).1.length]?=some l) :
  Calls Tryz.prog 107 #[.pointer (some ⟨R.b,0,none⟩),.int .i64 b] w fun e w'=>e = .returned (.tuple #[.agg (la l),.bool true])∧w.grownBy w' none:=by
 have hg0:w.grownBy (w.alloc (.cells (la zl) 50)) none:=grown_alloc (grown_refl _ _) _
 have hp:=hR.at b
 have hmem:=List.mem_of_getElem? hp
 have hwl:=hR.wid _ hmem
 have hways:=hR.may.ways
 have HN:=qh (rplace_no R c ss _ (hR.grown hg0) hI b hn)
 have HF:=qh (rfree_no R c ss _ (hR.grown hg0) b hf)
 have HO:Hid (∀ w1,(w.alloc (.cells (la zl) 50)).grownBy w1 none→_):=qh fun w1 hg=>own_after hg
 have HC:Hid (∀ w1,(w.alloc (.cells (la zl) 50)).grownBy w1 none→CfgAt w1 R.b c):=qh fun w1 hg=>(hR.grown (grown_trans hg0 hg)).cfg
 have HS:Hid (∀ w1,_):=qh (fun w1=>rset_any c b w1 hR.may)
 have hg:=Rac.good R c ss w hR hmem
 have HV:Hid (∀ w1,_):=qh (fun w1=>rvictim_in (setAt c ss b).2 (setAt c ss b).1.length w1 (hR.mlt _ hmem) hg)
 have HU:Hid (∀ w1,(w.alloc (.cells (la zl) 50)).grownBy w1 none→Us3 w1 R.b R.gm ss.length (setOf c b) (setAt c ss b).2 (setAt c ss b).1.length):=qh fun w1 h=>by
  have h':=hR.grown (grown_trans hg0 h)
  have:=h'.cfg.c2
  rw [show c.wa=((setAt c ss b).1.length:Int) by omega] at this
  exact ⟨h'.mems,h'.mem _ _ hp,this⟩
 have hv:vc (setAt c ss b).2 (setAt c ss b).1.length < (setAt c ss b).1.length:=(List.getElem?_eq_some_iff.1 hl).1
 have hfl:=rowAll_get hR.wid hp hl
 rw [← hwl] at hfl
 have hin:=(List.getElem?_eq_some_iff.1 hfl).1
 have HX:Hid (∀ w1,(w.alloc (.cells (la zl) 50)).grownBy w1 none→w1.cell? ⟨R.b,8,none⟩=some (.slice (some ⟨R.gl,0,none⟩) (rowAll ss).length (rowAll ss).length)∧w1.cell? ⟨R.b,2,none⟩=some (.int .i64 ((setAt c ss b).1.length:Int))∧w1.rangeAt R.gl ((setOf c b * (setAt c ss b).1.length + vc (setAt c ss b).2 (setAt c ss b).1.length) * 18) (ln l)∧w1.there w.heap.size 0 18):=qh fun w1 h=>
  ⟨(hR.grown (grown_trans hg0 h)).lines,(HU.out w1 h).2.2,(hR.grown (grown_trans hg0 h)).row.at_ _ l hfl,there_of (box_grown h)⟩
 have hs16:setOf c b < 16:=by have:=hR.may.set_lt b;have:=hR.may.sets;omega
 have hsS:setOf c b < ss.length:=(List.getElem?_eq_some_iff.1 hp).1
 have hN1:R.b ≠ w.heap.size:=by have:=hR.lt (.inl rfl);omega
 have hN2:R.gl ≠ w.heap.size:=by have:=hR.row.lt;omega
 have hn4:(setAt c ss b).1.length ≤ 4:=by omega
 have hn64:=hR.n64
 have HZ:Hid (la zl=_):=qh zl_la
 rw [HZ.out] at HO HN HF HC HU HX
 generalize vc (setAt c ss b).2 (setAt c ss b).1.length=v at *
 generalize (setAt c ss b).1.length=n at *
 generalize (setAt c ss b).2=m0 at *
 generalize setOf c b=s at *
 generalize ss.length=S at *
 generalize (rowAll ss).length=N at *
 obtain ⟨sn,hsn⟩:∃ sn,sn=s * n:=⟨_,rfl⟩
 rw [← hsn] at hin HX
 have hsn64:sn ≤ 64:=by rw [hsn];exact Nat.mul_le_mul (show s ≤ 16 by omega) hn4
 have hmul0:(s:Int) * (n:Int)=(sn:Int):=by rw [hsn,Int.natCast_mul]
 have hi0:0 ≤ (sn:Int) + (v:Int):=by omega
 have hi1:(sn:Int) + (v:Int) < (N:Int):=by omega
 have htn:((sn:Int) + (v:Int)).toNat=sn + v:=by omega
 obtain ⟨i,hi⟩:∃ i,i=sn + v:=⟨_,rfl⟩
 rw [← hi] at htn HX
 have hs0:(0:Int) ≤ (s:Int):=by omega
 have hs1:(s:Int) < (S:Int):=by omega
 have d0:decide (b < 0)=false:=by simp;omega
 have d1:decide (255 < b)=false:=by simp;omega
 have hwr:=wrap_two s n v sn hsn64 hmul0 (by omega)
 have HMU:=qh hwr.1
 have HAD:=qh hwr.2
 clear hwr
 have HQ:=qh (And.intro hi0 (And.intro hi1 htn))
 clear hi0 hi1 htn
 unfold Cfg.cells at HS
 clear hR hI hb hn hf hl hp hmem hwl hways hg hv hfl hin hs16 hsS hn4 hn64 hsn hsn64 hmul0 hi hg0
 go_enter Tryz.func107,Tryz.ntmps107
 go_wp2_with (first
  | (go_at_call 77;((with_reducible refine HN.out.mono ?_);rintro e w1 ⟨rfl,rfl⟩))
  | (go_at_call 148;((with_reducible refine HF.out.mono ?_);rintro e w2 ⟨rfl,hg2⟩;have HG2:=qh hg2;obtain ⟨c0,c1,c2,c3,c4,c5,c6,c7⟩:=HC.out w2 hg2;clear hg2))
  | (go_at_call 149;((with_reducible refine (HS.out _).mono ?_);rintro e w3 ⟨rfl,hg3⟩;have HG3:=qh (grown_trans HG2.out hg3);clear hg3 c0 c1 c2 c3 c4 c5 c6 c7)))
 have HU3:=qh (HU.out _ (grown_drew HG3.out))
 go_region_held3 (fun w'=>w'.cell? ⟨R.b,9,none⟩=some (.slice (some ⟨R.gm,0,none⟩) S S)∧w'.cell? ⟨R.gm,s,none⟩=some (.int .u8 (m0:Int))∧w'.cell? ⟨R.b,2,none⟩=some (.int .i64 (n:Int)))
  (first | exact HU3.out | exact Us3.more (by assumption) (by assumption))
  (first | (go_at_call 150;((with_reducible refine (HV.out _).mono ?_);rintro e w5 ⟨rfl,hg5⟩)))
 have HG5:=qh (grown_trans (grown_drew HG3.out) hg5)
 clear hg5
 obtain ⟨x8,x2,hr,ht⟩:=HX.out w5 HG5.out
 have HG1:=qh (HO.out w5 HG5.out)
 go_wp2_with fail
 have HK:=qh (kept5 x8 x2 hr ht hN1 hN2 (l':=l))
 obtain ⟨t,nn,HT,hagg,hsize,hld,hsz,hst⟩:=named2
 have hsz:=hsz l
 have hst:=hst w.heap.size 0 l
 have hld0:=fun w' h=>hld R.gl (i * 18) l w' h
 have hst1:=hst w5.drew ht
 clear hld hst
 rw [HT.out.1,HT.out.2]
 refine wp_region_held_drew (S:=fun w'=>w'.cell? ⟨R.b,8,none⟩=some (.slice (some ⟨R.gl,0,none⟩) N N)∧w'.cell? ⟨R.b,2,none⟩=some (.int .i64 (n:Int))∧(loadCellsFrom ⟨R.gl,i * 18,none⟩ 0 nn #[]).run Tryz.prog w' = .ok (la l) w') (by kernel_rfl) ⟨x8,x2,hld0 w5.drew hr⟩ (fun hHeld=>?_)
 refine tl 0 ?_ rfl ?_ ?_ (tl 1 ?_ rfl ?_ ?_ (tl 2 ?_ rfl ?_ ?_ (tl 3 ?_ rfl ?_ ?_ (tl 4 ?_ rfl ?_ ?_ ?_))))
 iterate 5 (rotate_left;(next=>(try simp only [lay]);((intro w0 hSw;(try dsimp only at hSw);obtain ⟨hs1,hs2,hs3⟩:=hSw;go_simp);try (with_reducible rfl)));next=>rfl)
 try simp only [lay]
 refine tl 5 ?_ rfl ?_ ?_ (tl 6 ?_ rfl ?_ ?_ (tl 7 ?_ rfl ?_ ?_ (tl 8 ?_ rfl ?_ ?_ (tl 9 ?_ rfl ?_ ?_ ?_))))
 iterate 5 (rotate_left;(next=>(try simp only [lay]);((intro w0 hSw;(try dsimp only at hSw);obtain ⟨hs1,hs2,hs3⟩:=hSw;go_simp);try (with_reducible rfl)));next=>rfl)
 try simp only [lay]
 refine tl 10 ?_ rfl ?_ ?_ ?_
 (rotate_left;(next=>((intro w0 hSw;(try dsimp only at hSw);obtain ⟨hs1,hs2,hs3⟩:=hSw;have hm1:=HMU.out;go_simp);try (with_reducible rfl)));next=>rfl)
 try simp only [lay]
 refine tl 11 ?_ rfl ?_ ?_ ?_
 (rotate_left;(next=>((intro w0 hSw;(try dsimp only at hSw);obtain ⟨hs1,hs2,hs3⟩:=hSw;go_simp);try (with_reducible rfl)));next=>rfl)
 try simp only [lay]
 refine tl 12 ?_ rfl ?_ ?_ ?_
 (rotate_left;(next=>((intro w0 hSw;(try dsimp only at hSw);obtain ⟨hs1,hs2,hs3⟩:=hSw;have ha1:=HAD.out;go_simp);try (with_reducible rfl)));next=>rfl)
 try simp only [lay]
 refine tl 13 ?_ rfl ?_ ?_ ?_
 (rotate_left;(next=>((intro w0 hSw;(try dsimp only at hSw);obtain ⟨hs1,hs2,hs3⟩:=hSw;have hq1:=HQ.out;have hq2:=hq1.1;have hq3:=hq1.2.1;have hq4:=hq1.2.2;go_simp);try (with_reducible rfl)));next=>rfl)
 try simp only [lay]
 refine tl 14 ?_ rfl ?_ ?_ ?_
 (rotate_left;(next=>((intro w0 hSw;(try dsimp only at hSw);obtain ⟨hs1,hs2,hs3⟩:=hSw;go_simp);try (with_reducible rfl)));next=>rfl)
 try simp only [lay]
 refine wpAnyH_ready (rs:=[15]) (by kernel_rfl) (by simp) ?_
 refine ac rfl (fun K hK=>?_) ?_
 ·go_simp
  refine hK.out _ _ ⟨HK.out.1,HK.out.2.1,hld0 _ HK.out.2.2.1⟩ (fun hHeld2=>?_)
  clear hK K
  try simp only [lay]
  refine tl 16 ?_ rfl ?_ ?_ ?_
  (rotate_left;(next=>((intro w0 hSw;(try dsimp only at hSw);obtain ⟨hs1,hs2,hs3⟩:=hSw;go_simp);try (with_reducible rfl)));next=>rfl)
  try simp only [lay]
  refine wpAnyH_done (by kernel_rfl) ?_ _
  go_wp2_with fail
  have HR:Hid ((w5.drew.setCells w.heap.size 0 (ln l)).rangeAt w.heap.size 0 (ln l)):=qh (World.rangeAt_setCells_same _ _ _ _ (by rw [ln_len];exact ht))
  have HE:Hid (w.grownBy (w5.drew.setCells w.heap.size 0 (ln l)) none):=qh (by
   have h1:=grown_trans HG1.out.2 (grown_drewN w5 1 none)
   have h2:=grown_setCells w5.drew w.heap.size 0 (ln l)
   exact ⟨h2.os.trans h1.os,h2.tape.trans h1.tape,h2.output.trans h1.output,Nat.le_trans h1.size h2.size,fun k hk hn=>(h2.block k (Nat.lt_of_lt_of_le hk h1.size) (by simp;omega)).trans (h1.block k hk hn)⟩)
  exact ret_ln rfl _ l _ w.heap.size _ _ (by rfl) (by rfl) HR.out (by exact ⟨rfl,HE.out⟩)
 exact AllReadyH.nil
end
theorem rgoes_any (R:RLoc) (c:Cfg) (ss:List St) (w:World) (hR:Rac w R c ss) (hI:Inv c ss) (b:Int):Calls Tryz.prog 107 #[.pointer (some ⟨R.b,0,none⟩),.int .i64 b] w fun e w'=>e = .returned (.tuple #[.agg (la (cgoes c ss b).1),.bool (cgoes c ss b).2])∧w.grownBy w' none:=by
 unfold cgoes
 by_cases hb:0 ≤ b∧b < 256
 ·simp only [if_pos hb]
  have hp:=hR.at b
  unfold wayFor
  cases hn:(setAt c ss b).1.findIdx? (isOf b) with
  | some i=>exact rgoes_old R c ss w hR hI b hb i hn
  | none=>
   simp only []
   cases hf:(setAt c ss b).1.findIdx? isFree with
   | some i=>exact rgoes_free R c ss w hR hI b hb i hn hf
   | none=>
    have hg:=Rac.good R c ss w hR (List.mem_of_getElem? hp)
    have hv:vc (setAt c ss b).2 (setAt c ss b).1.length < (setAt c ss b).1.length:=vc_lt _ _ (by unfold good at hg;omega)
    have hl:(setAt c ss b).1[vc (setAt c ss b).2 (setAt c ss b).1.length]?=some ((setAt c ss b).1.getD (vc (setAt c ss b).2 (setAt c ss b).1.length) zl):=by
     rw [List.getD_eq_getElem?_getD,List.getElem?_eq_getElem hv];rfl
    exact rgoes_some R c ss w hR hI b hb _ hn hf hl
 ·simp only [if_neg hb]
  exact rgoes_bad R.b b w hb
end Go.Proofs.YtcoimipgilkmbaaGreatDoor.kk

namespace Go.Proofs.YtcoimipgilkmbaaGreatDoor.kk
set_option linter.unusedVariables false
set_option linter.unusedSimpArgs false
set_option maxRecDepth 1000000
set_option maxHeartbeats 16000000
open Go Go.ChangeShapes Go.WideShapes Go.ChangeAt Go.RowKit Go.Shelf
open Go.Proofs.YtcoimipgilkmbaaGreatDoor.tt (hb Cfg cfg_at rmay_any grown_refl grown_drew grown_trans grown_alloc)
theorem made {P:Program} (t e:TypeId) (i:TypeInfo) (z:Value) (n size:Nat) (ht:P.underlying t=some (.slice e)) (hi:P.info? e=some i) (hz:i.zero=some z) (h1:i.size=size) (hc:z.cells.size=size) (h0:0 < size)
  (hb:(i.bytes:Int) * (n:Int) ≤ 281474976710656) (h63:(n:Int) ≤ 9223372036854775807) :
  ∃ cs:Array Value,cs.size=n * size∧(∀ (j k:Nat) v,j < n→z.cells[k]?=some v→cs[j * size + k]?=some v)∧∀ w:World,(Instr.makeSlice t (.int .i64 (n:Int)) (.int .i64 (n:Int))).run P w = .ok (.slice (some ⟨w.heap.size,0,none⟩) n n) (w.alloc (.cells cs e)):=by
 refine ⟨madeCells z.cells (n * size),by rw [size_madeCells],fun j k v hj hk=>?_,fun w=>?_⟩
 ·have hks:k < size:=by have:=(Array.getElem?_eq_some_iff.1 hk).1;omega
  have hjk:j * size + k < n * size:=by
   have:(j + 1) * size ≤ n * size:=Nat.mul_le_mul_right _ hj
   rw [Nat.add_mul,Nat.one_mul] at this
   omega
  unfold madeCells
  rw [Array.getElem?_map,Array.getElem?_range,if_pos hjk]
  simp only [Option.map_some,hc]
  rw [Nat.mul_comm j size,Nat.mul_add_mod,Nat.mod_eq_of_lt hks,getElem!_def,hk]
 ·have hrun:=run_make (P:=P) w t e i z ht hi hz .i64 .i64 n n (by omega) (Int.le_refl _) hb h63
  rw [Int.toNat_natCast,h1] at hrun
  exact hrun
theorem info5:(Tryz.prog.info? 5).map (fun i=>(i.zero,i.size,i.bytes))=some (some (.int .u8 0),1,1):=by kernel_rfl
theorem empty_at {c:Cfg} {i:Nat} {p:St} (h:(empty c)[i]?=some p):p=(List.replicate c.wa.toNat zl,0)∧i < c.se.toNat:=by
 unfold empty at h
 rw [List.getElem?_replicate] at h
 split at h
 ·rename_i hlt;cases h;exact ⟨rfl,hlt⟩
 ·cases h
theorem empty_row (c:Cfg):(∀ (j:Nat) l,(rowAll (empty c))[j]?=some l→l=zl)∧(rowAll (empty c)).length=c.se.toNat * c.wa.toNat:=by
 have hw:∀ p ∈ empty c,p.1.length=c.wa.toNat:=fun p hp=>by
  obtain ⟨i,hi⟩:=List.getElem?_of_mem hp
  rw [(empty_at hi).1];simp
 refine ⟨fun j l hl=>?_,by rw [rowAll_len hw];simp [empty]⟩
 obtain ⟨s,k,p,_,_,hp,hk⟩:=rowAll_at hw hl
 rw [(empty_at hp).1] at hk
 rw [List.getElem?_replicate] at hk
 split at hk <;> first | (cases hk;rfl) | cases hk
theorem rnew_rac (c:Cfg) (hm:c.may) (w':World) (B gl gm:Nat) (cs ds:Array Value) (hs:(∀ (j k:Nat) v,j < c.se.toNat * c.wa.toNat→(la zl)[k]?=some v→cs[j * 18 + k]?=some v)) (hd:∀ (j k:Nat) v,j < c.se.toNat→(#[.int .u8 0]:Array Value)[k]?=some v→ds[j * 1 + k]?=some v)
  (h1:w'.heap[gl]?=some (.cells cs 50 (0,0))) (h2:w'.heap[gm]?=some (.cells ds 5 (0,0))) (h3:w'.heap[B]?=some (.cells (c.cells ++ #[.slice (some ⟨gl,0,none⟩) (c.se.toNat * c.wa.toNat) (c.se.toNat * c.wa.toNat),.slice (some ⟨gm,0,none⟩) c.se.toNat c.se.toNat]) 131 (0,0))) :
  Rac w' ⟨B,gl,gm⟩ c (empty c):=by
 obtain ⟨he,hl⟩:=empty_row c
 have hel:(empty c).length=c.se.toNat:=by simp [empty]
 refine ⟨by rw [hl,hel];exact h3,⟨⟨_,h1⟩,fun j l hj i v hv=>?_⟩,⟨_,h2⟩,fun i p hp=>?_,by rw [hel];have:=hm.sets;omega,fun p hp=>?_,fun p hp=>?_,hm⟩
 ·have hjl:=(List.getElem?_eq_some_iff.1 hj).1
  rw [he j l hj] at hv
  exact (cell_of_row _ _ _ _ _ _ h1).trans (hs j i v (by omega) (by simpa [la] using hv))
 ·obtain ⟨rfl,hlt⟩:=empty_at hp
  have:=hd i 0 _ hlt rfl
  rw [Nat.mul_one,Nat.add_zero] at this
  exact (cell_of_row _ _ _ _ _ _ h2).trans this
 ·obtain ⟨i,hi⟩:=List.getElem?_of_mem hp
  rw [(empty_at hi).1];simp
 ·obtain ⟨i,hi⟩:=List.getElem?_of_mem hp
  rw [(empty_at hi).1];show 0 < 256;omega
theorem rnew_ok (c:Cfg) (w:World) (hm:c.may):Calls Tryz.prog 65 #[.agg c.cells] w fun e w'=>∃ R:RLoc,e = .returned (.tuple #[.pointer (some ⟨R.b,0,none⟩),.int .i64 0])∧Rac w' R c (empty c)∧w.grownBy w' none∧∀ k,R.any k→w.heap.size ≤ k:=by
 have HG0:Hid (w.grownBy (w.alloc (.cells c.cells 27)) none):=qh (grown_alloc (grown_refl _ _) _)
 have HM:=qh (rmay_any c (w.alloc (.cells c.cells 27)))
 have HA:=qh (cfg_at w c)
 rw [decide_eq_true hm] at HM
 obtain ⟨c0,c1,c2,c3,c4,c5,c6,c7⟩:=cfg_at w c
 have hse:=hm.sets
 have hwa:=hm.ways
 obtain ⟨S,hS⟩:∃ S,S=c.se.toNat:=⟨_,rfl⟩
 obtain ⟨V,hV⟩:∃ V,V=c.wa.toNat:=⟨_,rfl⟩
 have eS:c.se=(S:Int):=by omega
 have eV:c.wa=(V:Int):=by omega
 obtain ⟨n,hn⟩:∃ n,n=S * V:=⟨_,rfl⟩
 have hn64:n ≤ 64:=by rw [hn];exact Nat.mul_le_mul (show S ≤ 16 by omega) (show V ≤ 4 by omega)
 have hmul:IntKind.i64.wrap ((S:Int) * (V:Int))=(n:Int):=by
  rw [hn,← Int.natCast_mul];exact IntWalk.i64_in _ (by rw [← hn];omega)
 obtain ⟨i36,hi36,z36,s36,y36⟩:=info_parts info36z
 obtain ⟨i5,hi5,z5,s5,y5⟩:=info_parts info5
 obtain ⟨cs,hcs,hcz,hmk⟩:=made (P:=Tryz.prog) 128 50 i36 (.agg (la zl)) n 18 Tryz.underlying128 hi36 z36 s36 (by rfl) (by omega) (by rw [y36];omega) (by omega)
 obtain ⟨ds,hds,hdz,hmk2⟩:=made (P:=Tryz.prog) 129 5 i5 (.int .u8 0) S 1 Tryz.underlying129 hi5 z5 s5 (by rfl) (by omega) (by rw [y5];omega) (by omega)
 have HFIN:Hid (∀ (w':World) (B gl gm:Nat),w'.heap[gl]?=some (.cells cs 50 (0,0))→w'.heap[gm]?=some (.cells ds 5 (0,0))→w'.heap[B]?=some (.cells (c.cells ++ #[.slice (some ⟨gl,0,none⟩) n n,.slice (some ⟨gm,0,none⟩) S S]) 131 (0,0))→Rac w' ⟨B,gl,gm⟩ c (empty c)):=qh fun w' B gl gm h1 h2 h3=>rnew_rac c hm w' B gl gm cs ds (by rw [← hS,← hV,← hn];exact hcz) (by rw [← hS];exact hdz) h1 h2 (by rw [← hS,← hV,← hn];exact h3)
 have HES:=qh eS
 have HEV:=qh eV
 rw [eS] at c1
 rw [eV] at c2
 clear hm hse hwa hS hV eS eV hn hi36 z36 s36 y36 hi5 z5 s5 y5 hcs hds hcz hdz hn64
 unfold Cfg.cells at *
 rw [HES.out,HEV.out] at HM HG0 ⊢
 rw [HES.out,HEV.out] at c0 c1 c2 c3 c4 c5 c6 c7 HA
 go_enter Tryz.func65,Tryz.ntmps65
 go_wp2_with (go_at_call 64;((with_reducible refine HM.out.mono ?_);rintro e w1 ⟨rfl,hg1⟩;have HG1:=qh hg1;have HA1:=qh (HA.out.grown hg1);clear hg1 c0 c1 c2 c3 c4 c5 c6 c7))
 have HCC:Hid (∀ w',w1.grownBy w' none→w'.cell? ⟨w.heap.size,0,none⟩=some (.int .i64 c.co)∧w'.cell? ⟨w.heap.size,1,none⟩=some (.int .i64 (S:Int))∧w'.cell? ⟨w.heap.size,2,none⟩=some (.int .i64 (V:Int))∧w'.cell? ⟨w.heap.size,3,none⟩=some (.int .i64 c.bl)∧w'.cell? ⟨w.heap.size,4,none⟩=some (.int .i64 c.lo)∧w'.cell? ⟨w.heap.size,5,none⟩=some (.int .i64 c.ba)∧w'.cell? ⟨w.heap.size,6,none⟩=some (.int .i64 c.ne)∧w'.cell? ⟨w.heap.size,7,none⟩=some (.int .i64 c.tr)):=qh fun w' h=>by
  obtain ⟨d0,d1,d2,d3,d4,d5,d6,d7⟩:=HA1.out.grown h
  rw [HES.out] at d1
  rw [HEV.out] at d2
  exact ⟨d0,d1,d2,d3,d4,d5,d6,d7⟩
 have HL1:Hid (w.heap.size < w1.heap.size):=qh (by have:=HG1.out.size;simp at this;omega)
 refine wp_region_held_drew (S:=fun w'=>w'.cell? ⟨w.heap.size,0,none⟩=some (.int .i64 c.co)∧w'.cell? ⟨w.heap.size,1,none⟩=some (.int .i64 (S:Int))∧w'.cell? ⟨w.heap.size,2,none⟩=some (.int .i64 (V:Int))∧w'.cell? ⟨w.heap.size,3,none⟩=some (.int .i64 c.bl)∧w'.cell? ⟨w.heap.size,4,none⟩=some (.int .i64 c.lo)∧w'.cell? ⟨w.heap.size,5,none⟩=some (.int .i64 c.ba)∧w'.cell? ⟨w.heap.size,6,none⟩=some (.int .i64 c.ne)∧w'.cell? ⟨w.heap.size,7,none⟩=some (.int .i64 c.tr)) (by kernel_rfl) (HCC.out _ (grown_drew (grown_refl _ _))) (fun hHeld=>?_)
 generalize hwy:w1.drew=wy at hHeld ⊢
 have HGY:Hid (w1.grownBy wy none):=qh (hwy ▸ grown_drew (grown_refl _ _))
 clear hwy
 refine tl 0 ?_ rfl ?_ ?_ (tl 1 ?_ rfl ?_ ?_ (tl 2 ?_ rfl ?_ ?_ (tl 3 ?_ rfl ?_ ?_ (tl 4 ?_ rfl ?_ ?_ (tl 5 ?_ rfl ?_ ?_ (tl 7 ?_ rfl ?_ ?_ (tl 8 ?_ rfl ?_ ?_ ?_)))))))
 iterate 8 (rotate_left;(next=>(try simp only [lay]);((intro w0 hSw;obtain ⟨hs0,hs1,hs2,hs3,hs4,hs5,hs6,hs7⟩:=hSw;go_simp);try (with_reducible rfl)));next=>rfl)
 try simp only [lay]
 refine wpAnyH_ready (rs:=[6,9]) (by kernel_rfl) (by simp) ?_
 refine ac rfl (fun K hK=>?_) (ac rfl (fun K hK=>?_) AllReadyH.nil)
 ·skip
  have hrun:=hmk wy
  go_simp
  refine hK.out _ _ (HCC.out _ (grown_alloc HGY.out _)) (fun hHeld=>?_)
  clear hK K hrun
  try simp only [lay]
  refine rd 9 rfl fun K hK=>?_
  have hrun:=hmk2 (wy.alloc (.cells cs 50))
  go_simp
  refine hK.out _ _ (HCC.out _ (grown_alloc (grown_alloc HGY.out _) _)) (fun hHeld=>?_)
  clear hK K hrun
  try simp only [lay]
  refine tl 10 ?_ rfl ?_ ?_ ?_
  (rotate_left;(next=>((intro w0 hSw;go_simp);try (with_reducible rfl)));next=>rfl)
  try simp only [lay]
  refine rd 11 rfl fun K hK=>?_
  go_simp
  refine hK.out _ _ (HCC.out _ (grown_alloc (grown_alloc (grown_alloc HGY.out _) _) _)) (fun hHeld=>?_)
  clear hK K
  try simp only [lay]
  refine tl 12 ?_ rfl ?_ ?_ (tl 13 ?_ rfl ?_ ?_ ?_)
  iterate 2 (rotate_left;(next=>(try simp only [lay]);((intro w0 hSw;go_simp);try (with_reducible rfl)));next=>rfl)
  try simp only [lay]
  refine wpAnyH_done (by kernel_rfl) ?_ _
  go_wp2_with fail
  go_ret2
  have h1:=HGY.out.size
  have h2:=HL1.out
  refine ⟨⟨wy.heap.size + 1 + 1,wy.heap.size,wy.heap.size + 1⟩,rfl,HFIN.out _ _ _ _ ((Below.heap_alloc _ _ _ (by simp;omega)).trans ((Below.heap_alloc _ _ _ (by simp)).trans (heap_alloc_new wy (.cells cs 50)))) ((Below.heap_alloc _ _ _ (by simp)).trans (by have:=heap_alloc_new (wy.alloc (.cells cs 50)) (.cells ds 5);rw [World.size_alloc] at this;exact this)) ?_,grown_trans HG0.out (grown_trans HG1.out (grown_alloc (grown_alloc (grown_alloc HGY.out _) _) _)),fun k hk=>?_⟩
  ·have:=heap_alloc_new ((wy.alloc (.cells cs 50)).alloc (.cells ds 5)) (.cells #[.int .i64 c.co,.int .i64 (S:Int),.int .i64 (V:Int),.int .i64 c.bl,.int .i64 c.lo,.int .i64 c.ba,.int .i64 c.ne,.int .i64 c.tr,.slice (some ⟨wy.heap.size,0,none⟩) n n,.slice (some ⟨wy.heap.size + 1,0,none⟩) S S] 131)
   rw [World.size_alloc,World.size_alloc] at this
   rw [HES.out,HEV.out]
   exact this
  ·rcases hk with e | e | e <;> (have e2:k=_:=e;simp at e2;omega)
 ·skip
  have hrun:=hmk2 wy
  go_simp
  refine hK.out _ _ (HCC.out _ (grown_alloc HGY.out _)) (fun hHeld=>?_)
  clear hK K hrun
  try simp only [lay]
  refine rd 6 rfl fun K hK=>?_
  have hrun:=hmk (wy.alloc (.cells ds 5))
  go_simp
  refine hK.out _ _ (HCC.out _ (grown_alloc (grown_alloc HGY.out _) _)) (fun hHeld=>?_)
  clear hK K hrun
  try simp only [lay]
  refine tl 10 ?_ rfl ?_ ?_ ?_
  (rotate_left;(next=>((intro w0 hSw;go_simp);try (with_reducible rfl)));next=>rfl)
  try simp only [lay]
  refine rd 11 rfl fun K hK=>?_
  go_simp
  refine hK.out _ _ (HCC.out _ (grown_alloc (grown_alloc (grown_alloc HGY.out _) _) _)) (fun hHeld=>?_)
  clear hK K
  try simp only [lay]
  refine tl 12 ?_ rfl ?_ ?_ (tl 13 ?_ rfl ?_ ?_ ?_)
  iterate 2 (rotate_left;(next=>(try simp only [lay]);((intro w0 hSw;go_simp);try (with_reducible rfl)));next=>rfl)
  try simp only [lay]
  refine wpAnyH_done (by kernel_rfl) ?_ _
  go_wp2_with fail
  go_ret2
  have h1:=HGY.out.size
  have h2:=HL1.out
  refine ⟨⟨wy.heap.size + 1 + 1,wy.heap.size + 1,wy.heap.size⟩,rfl,HFIN.out _ _ _ _ ((Below.heap_alloc _ _ _ (by simp)).trans (by have:=heap_alloc_new (wy.alloc (.cells ds 5)) (.cells cs 50);rw [World.size_alloc] at this;exact this)) ((Below.heap_alloc _ _ _ (by simp;omega)).trans ((Below.heap_alloc _ _ _ (by simp)).trans (heap_alloc_new wy (.cells ds 5)))) ?_,grown_trans HG0.out (grown_trans HG1.out (grown_alloc (grown_alloc (grown_alloc HGY.out _) _) _)),fun k hk=>?_⟩
  ·have:=heap_alloc_new ((wy.alloc (.cells ds 5)).alloc (.cells cs 50)) (.cells #[.int .i64 c.co,.int .i64 (S:Int),.int .i64 (V:Int),.int .i64 c.bl,.int .i64 c.lo,.int .i64 c.ba,.int .i64 c.ne,.int .i64 c.tr,.slice (some ⟨wy.heap.size + 1,0,none⟩) n n,.slice (some ⟨wy.heap.size,0,none⟩) S S] 131)
   rw [World.size_alloc,World.size_alloc] at this
   rw [HES.out,HEV.out]
   exact this
  ·rcases hk with e | e | e <;> (have e2:k=_:=e;simp at e2;omega)
end Go.Proofs.YtcoimipgilkmbaaGreatDoor.kk
