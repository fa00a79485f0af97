/-
 What all and Merge answer, both of the program and of the document: contracts. No condition but the bounds that each theorem names.
 What Merge answers, both the program's and the document's: contracts. No condition but the bounds that each theorem names.
 works returns true; so do the laws MemKnown, MemMerges and MemMergesBoth: the walks. No condition but the bounds that each theorem names.
 What the document's own memory answers, and what it is behind each call: contracts. No condition but the bounds that each theorem names.
 What the document's own memory answers to Block, SetBlock, New: contracts. No condition but the bounds that each theorem names.
 What the document's own memory answers to SetBlock, New: contracts. No condition but the bounds that each theorem names.
-/
import Derived.Test.YtenhdijbcdkfbaaGreatDoorTl
import Derived.Test.YtenhdijbcdkfbaaGreatDoorMe
import Derived.Laws.BitsAllLaws
import Derived.Deep.RegionHeld
namespace Go.Proofs.YtenhdijbcdkfbaaGreatDoor.pp
set_option linter.unusedVariables false
set_option linter.unusedSimpArgs false
set_option maxRecDepth 1000000
set_option maxHeartbeats 16000000
open Go Go.ChangeShapes Go.WideShapes Go.ChangeAt Go.RowKit
def pre (x:Int) (k:Nat):List Int:=List.replicate k x ++ List.replicate (16 - k) 0
theorem pre_len (x:Int) (k:Nat) (h:k ≤ 16):(pre x k).length=16:=by simp [pre];omega
theorem grown_setRow {w w1:World} (h:w.grownBy w1 none) (g:Nat) (hg:w.heap.size ≤ g) (c:Array Value):w.grownBy (w1.setRow g c) none:=
 ⟨h.os,h.tape,h.output,by have:=h.size;simp;omega,fun k hk hn=>(setRow_other _ _ _ _ (by omega)).trans (h.block k hk hn)⟩
end Go.Proofs.YtenhdijbcdkfbaaGreatDoor.pp
namespace Go.Proofs.YtenhdijbcdkfbaaGreatDoor.pp
set_option linter.unusedVariables false
set_option linter.unusedSimpArgs false
set_option maxRecDepth 1000000
set_option maxHeartbeats 16000000
open Go Go.ChangeShapes Go.WideShapes Go.ChangeAt Go.RowKit
end Go.Proofs.YtenhdijbcdkfbaaGreatDoor.pp
namespace Go.Proofs.YtenhdijbcdkfbaaGreatDoor.pp
set_option linter.unusedVariables false
set_option linter.unusedSimpArgs false
set_option maxRecDepth 1000000
set_option maxHeartbeats 16000000
open Go Go.ChangeShapes Go.WideShapes Go.ChangeAt Go.RowKit
def rl (x:List Int):List Value:=x.map U
theorem range_of {w:World} {g:Nat} {x:List Int} (h:w.heap[g]?=some (.cells (row x) 43 (0,0))):w.rangeAt g 0 (rl x):=fun j v hv=>by
 rw [Nat.zero_add,cell_of_row _ _ j _ _ _ h,row_get]
 simpa [rl] using hv
theorem range_grown {w w':World} {g o:Nat} {xs:List Value} (h:w.rangeAt g o xs) (hg:w.grownBy w' none):w'.rangeAt g o xs:=fun j v hv=>hg.cell (h j v hv) (by simp)
def Two (w w':World) (g1 g2:Nat) (x y:List Int):Prop:=w'.rangeAt g1 0 (rl x)∧w'.rangeAt g2 0 (rl y)∧w.grownBy w' none
theorem Two.next {w w1 w2:World} {g1 g2:Nat} {x y:List Int} (h:w1.rangeAt g1 0 (rl x)∧w1.rangeAt g2 0 (rl y)∧w.grownBy w1 none) (k:w1.grownBy w2 none):w2.rangeAt g1 0 (rl x)∧w2.rangeAt g2 0 (rl y)∧w.grownBy w2 none:=
 ⟨range_grown h.1 k,range_grown h.2.1 k,grown_trans h.2.2 k⟩
theorem named:∃ (t:TypeId) (n:Nat),Hid (Op.load 43=Op.load t)∧(∀ w,(isAgg t).run Tryz.prog w = .ok true w)∧(∀ w,(sizeOf t).run Tryz.prog w = .ok n w) ∧
  ∀ (g:Nat) (x:List Int),x.length=16→∀ w:World,w.rangeAt g 0 (rl x)→(loadCellsFrom ⟨g,0,none⟩ 0 n #[]).run Tryz.prog w = .ok (row x) w:=
 ⟨43,16,qh rfl,Tryz.isAgg43,Tryz.sizeOf43,fun g x hx w h=>by
  have:=run_loadCells_list (P:=Tryz.prog) w ⟨g,0,none⟩ (rl x) (fun j v hv=>by rw [add_lit];exact h j v hv)
  simpa [loadCells,rl,hx,row] using this⟩
end Go.Proofs.YtenhdijbcdkfbaaGreatDoor.pp
namespace Go.Proofs.YtenhdijbcdkfbaaGreatDoor.pp
set_option linter.unusedVariables false
set_option linter.unusedSimpArgs false
set_option maxRecDepth 1000000
set_option maxHeartbeats 16000000
open Go Go.ChangeShapes Go.WideShapes Go.ChangeAt Go.RowKit
theorem inn_iff (n:Nat) (i k:Int):inn n i k=true ↔ 0 ≤ i∧i < n∧0 ≤ k∧k < 16:=by simp [inn]
def Len16 (bs:List (List Int)):Prop:=∀ x ∈ bs,x.length=16
theorem flat_len:∀ (bs:List (List Int)),Len16 bs→bs.flatten.length=16 * bs.length
 | [],_=>rfl
 | y :: r,h=>by
  rw [List.flatten_cons,List.length_append,flat_len r (fun x hx=>h x (List.mem_cons_of_mem _ hx)),h y (List.mem_cons_self ..),List.length_cons];omega
theorem flat_get:∀ (bs:List (List Int)),Len16 bs→∀ (i k:Nat) (x:List Int),bs[i]?=some x→k < 16→bs.flatten[16 * i + k]?=x[k]?
 | [],_,i,k,x,hx,_=>by simp at hx
 | y :: r,h,0,k,x,hx,hk=>by
  have hy:y.length=16:=h y (List.mem_cons_self ..)
  simp at hx;subst hx
  rw [List.flatten_cons,List.getElem?_append_left (by omega)];simp
 | y :: r,h,i + 1,k,x,hx,hk=>by
  have hy:y.length=16:=h y (List.mem_cons_self ..)
  have ih:=flat_get r (fun x hx=>h x (List.mem_cons_of_mem _ hx)) i k x (by simpa using hx) hk
  rw [List.flatten_cons,List.getElem?_append_right (by omega),hy,show 16 * (i + 1) + k - 16=16 * i + k by omega];exact ih
theorem flat_set:∀ (bs:List (List Int)),Len16 bs→∀ (i k:Nat) (x:List Int) (u:Int),bs[i]?=some x→k < 16→bs.flatten.set (16 * i + k) u=(bs.set i (x.set k u)).flatten
 | [],_,i,k,x,_,hx,_=>by simp at hx
 | y :: r,h,0,k,x,u,hx,hk=>by
  have hy:y.length=16:=h y (List.mem_cons_self ..)
  simp at hx;subst hx
  rw [List.flatten_cons,List.set_append_left _ _ (by omega),List.set_cons_zero,List.flatten_cons];simp
 | y :: r,h,i + 1,k,x,u,hx,hk=>by
  have hy:y.length=16:=h y (List.mem_cons_self ..)
  have ih:=flat_set r (fun x hx=>h x (List.mem_cons_of_mem _ hx)) i k x u (by simpa using hx) hk
  rw [List.flatten_cons,List.set_append_right _ _ (by omega),hy,show 16 * (i + 1) + k - 16=16 * i + k by omega,ih,List.set_cons_succ,List.flatten_cons]
theorem Len16.set {bs:List (List Int)} (h:Len16 bs) (i:Nat) (x:List Int) (hx:x.length=16):Len16 (bs.set i x):=fun y hy=>by
 rcases List.mem_or_eq_of_mem_set hy with hy | rfl
 ·exact h y hy
 ·exact hx
structure RMem (w:World) (b:Nat) (v:Value) (bs:List (List Int)):Prop where
 blk:w.heap[b]?=some (.cells #[v] 78 (0,0))
 sl:Sl w 41 v (bs.flatten.map U)
 len:Len16 bs
 few:bs.length ≤ 256
theorem RMem.lt {w:World} {b:Nat} {v:Value} {bs:List (List Int)} (h:RMem w b v bs):b < w.heap.size:=(Array.getElem?_eq_some_iff.1 h.blk).1
theorem RMem.cell0 {w:World} {b:Nat} {v:Value} {bs:List (List Int)} (h:RMem w b v bs):w.cell? ⟨b,0,none⟩=some v:=by simp [World.cell?,h.blk]
theorem RMem.form {w:World} {b:Nat} {v:Value} {bs:List (List Int)} (h:RMem w b v bs):∃ ad cap,v = .slice ad (16 * bs.length) cap:=by
 obtain ⟨ad,cap,h3⟩:=h.sl.form
 exact ⟨ad,cap,by rw [h3,List.length_map,flat_len _ h.len]⟩
theorem RMem.bl {w:World} {b:Nat} {v:Value} {bs:List (List Int)} (h:RMem w b v bs) (k:Nat) (hk:v.ownBlock=some k):∃ c,w.heap[k]?=some (.cells c 41 (0,0)):=by
 rcases h.sl with ⟨rfl,_⟩ | ⟨g,off,cap,cur,rfl,hg,_⟩
 ·simp [Value.ownBlock] at hk
 ·simp [Value.ownBlock] at hk;subst hk;exact ⟨cur,hg⟩
theorem RMem.grown {w w':World} {b:Nat} {v:Value} {bs:List (List Int)} (h:RMem w b v bs) {own:Option Nat} (hg:w.grownBy w' own) (hk:∀ k,own=some k→∃ c t f,w.heap[k]?=some (.cells c t f)∧t ≠ 78∧t ≠ 41):RMem w' b v bs:=by
 refine ⟨(hg.block b h.lt fun e=>?_).trans h.blk,h.sl.of_block fun g hgk=>hg.block g (h.sl.lt g hgk) fun e=>?_,h.len,h.few⟩
 ·obtain ⟨c,t,f,hc,ht,_⟩:=hk b e.symm
  exact tyne hc h.blk ht rfl
 ·obtain ⟨c,t,f,hc,_,ht⟩:=hk g e.symm
  obtain ⟨c2,hc2⟩:=h.bl g hgk
  exact tyne hc hc2 ht rfl
theorem RMem.kept {w w':World} {b:Nat} {v:Value} {bs:List (List Int)} (h:RMem w b v bs) (hg:w.grownBy w' none):RMem w' b v bs:=h.grown hg fun k e=>by cases e
theorem RMem.at {w:World} {b:Nat} {v:Value} {bs:List (List Int)} (h:RMem w b v bs) {i k:Nat} {x:List Int} {y:Int} (hx:bs[i]?=some x) (hy:x[k]?=some y) :
  ∃ g off cap,v = .slice (some ⟨g,off,none⟩) (16 * bs.length) cap∧w.cell? ⟨g,off + (16 * i + k),none⟩=some (.int .u32 y)∧w.frozen? ⟨g,off + (16 * i + k),none⟩=false:=by
 have hk:k < 16:=by rw [← h.len x (List.mem_of_getElem? hx)];exact (List.getElem?_eq_some_iff.1 hy).1
 have hf:(bs.flatten.map U)[16 * i + k]?=some (.int .u32 y):=by rw [List.getElem?_map,flat_get bs h.len i k x hx hk,hy];rfl
 rcases h.sl with ⟨_,h0⟩ | ⟨g,off,cap,cur,rfl,hb,h1,h2,h3,h4⟩
 ·rw [h0] at hf;simp at hf
 ·refine ⟨g,off,cap,by rw [List.length_map,flat_len _ h.len],?_,frozen_of_row _ _ _ _ _ hb⟩
  rw [cell_of_row _ _ _ _ _ _ hb];exact h4 _ _ hf
theorem RMem.put {w:World} {b:Nat} {g off cap n:Nat} {bs:List (List Int)} (h:RMem w b (.slice (some ⟨g,off,none⟩) n cap) bs) {i k:Nat} {x:List Int} (y:Int) (hx:bs[i]?=some x) (hk:k < 16) :
  RMem (w.setCell ⟨g,off + (16 * i + k),none⟩ (.int .u32 y)) b (.slice (some ⟨g,off,none⟩) n cap) (bs.set i (x.set k y))∧w.grownBy (w.setCell ⟨g,off + (16 * i + k),none⟩ (.int .u32 y)) (some g):=by
 have hx16:=h.len x (List.mem_of_getElem? hx)
 have hi:i < bs.length:=(List.getElem?_eq_some_iff.1 hx).1
 rcases h.sl with ⟨hv,_⟩ | ⟨g',off',cap',cur,hv,hb,h1,h2,h3,h4⟩
 ·cases hv
 cases hv
 have hoth:∀ k',k' ≠ g→(w.setCell ⟨g,off + (16 * i + k),none⟩ (.int .u32 y)).heap[k']?=w.heap[k']?:=fun k' hk'=>heap_setCell_other _ _ _ _ hk'
 have hl:=flat_len bs h.len
 simp only [List.length_map] at h1
 refine ⟨⟨(hoth b (tyne h.blk hb (by decide))).trans h.blk,.inr ⟨g,off,cap,_,?_,heap_setCell_same _ _ _ _ _ _ hb,?_,h2,by simp;omega,fun j u hu=>?_⟩,h.len.set i _ (by simp [hx16]),by simpa using h.few⟩,⟨rfl,rfl,rfl,by simp [World.setCell],fun k' _ hn=>hoth k' (fun e=>hn (by rw [e]))⟩⟩
 ·rw [← flat_set bs h.len i k x y hx hk,List.length_map,List.length_map,List.length_set]
 ·rw [← flat_set bs h.len i k x y hx hk,List.length_map,List.length_set];exact h1
 ·rw [← flat_set bs h.len i k x y hx hk,List.map_set] at hu
  rw [Array.getElem?_setIfInBounds]
  by_cases hj:16 * i + k=j
  ·subst hj
   rw [if_pos rfl,if_pos (by omega)]
   rw [List.getElem?_set_self (by rw [List.length_map];omega)] at hu
   exact hu
  ·rw [if_neg (by omega)]
   rw [List.getElem?_set_ne hj] at hu
   exact h4 j u hu
theorem place_any (b:Nat) (v:Value) (bs:List (List Int)) (i k:Int) (w:World) (hR:RMem w b v bs):Calls Tryz.prog 55 #[.pointer (some ⟨b,0,none⟩),.int .i64 i,.int .i64 k] w fun e w'=>e = .returned (.int .i64 (if inn bs.length i k then 16 * i + k else -1))∧w=w':=by
 obtain ⟨ad,cap,rfl⟩:=hR.form
 have hc:=hR.cell0
 have hn:=hR.few
 clear hR
 obtain ⟨n,hn'⟩:∃ n,n=bs.length:=⟨_,rfl⟩
 rw [← hn'] at hc hn ⊢
 clear hn'
 have hdiv:((16 * n:Nat):Int) / 16=(n:Int):=by omega
 obtain ⟨m,hm⟩:∃ m,m=16 * n:=⟨_,rfl⟩
 rw [← hm] at hc hdiv
 have hm2:m ≤ 4096:=by omega
 clear hm
 by_cases hin:inn n i k=true
 ·obtain ⟨h1,h2,h3,h4⟩:=(inn_iff _ _ _).1 hin
  have h5:¬ 15 < k:=by omega
  rw [hin,if_pos rfl]
  clear hin
  go_enter Tryz.func55,Tryz.ntmps55
  go_wp2
  go_ret
  exact ⟨rfl,rfl⟩
 ·have hnot:¬ (0 ≤ i∧i < n∧0 ≤ k∧k < 16):=fun h=>hin ((inn_iff _ _ _).2 h)
  rw [if_neg hin]
  clear hin
  by_cases h1:0 ≤ i
  ·by_cases h2:i < n
   ·by_cases h3:0 ≤ k
    ·have h4:15 < k:=by omega
     clear hnot
     go_enter Tryz.func55,Tryz.ntmps55
     go_wp2
     go_ret
     exact ⟨rfl,rfl⟩
    ·clear hnot
     go_enter Tryz.func55,Tryz.ntmps55
     go_wp2
     go_ret
     exact ⟨rfl,rfl⟩
   ·clear hnot
    go_enter Tryz.func55,Tryz.ntmps55
    go_wp2
    go_ret
    exact ⟨rfl,rfl⟩
  ·clear hnot
   go_enter Tryz.func55,Tryz.ntmps55
   go_wp2
   go_ret
   exact ⟨rfl,rfl⟩
end Go.Proofs.YtenhdijbcdkfbaaGreatDoor.pp
namespace Go.Proofs.YtenhdijbcdkfbaaGreatDoor.pp
set_option linter.unusedVariables false
set_option linter.unusedSimpArgs false
set_option maxRecDepth 1000000
set_option maxHeartbeats 16000000
open Go Go.ChangeShapes Go.WideShapes Go.ChangeAt Go.RowKit
def cp (x y:List Int) (k:Nat):List Int:=x.take k ++ y.drop k
theorem cp_len (x y:List Int) (k:Nat) (hx:x.length=16) (hy:y.length=16) (h:k ≤ 16):(cp x y k).length=16:=by simp [cp];omega
theorem cp_zero (x y:List Int):cp x y 0=y:=by simp [cp]
theorem cp_all (x y:List Int) (hx:x.length=16) (hy:y.length=16):cp x y 16=x:=by
 rw [cp,List.take_of_length_le (by omega),List.drop_of_length_le (by omega),List.append_nil]
theorem cp_set (x y:List Int) (k:Nat) (u:Int) (hx:x.length=16) (hy:y.length=16) (h:x[k]?=some u):(cp x y k).set k u=cp x y (k + 1):=by
 have hk:k < 16:=by rw [← hx];exact (List.getElem?_eq_some_iff.1 h).1
 apply List.ext_getElem?
 intro j
 rw [List.getElem?_set,cp_len _ _ _ hx hy (by omega)]
 unfold cp
 rw [List.getElem?_append,List.getElem?_append,List.length_take,List.length_take,List.getElem?_take,List.getElem?_take,List.getElem?_drop,List.getElem?_drop]
 rw [show min k x.length=k by omega,show min (k + 1) x.length=k + 1 by omega]
 by_cases h1:k=j
 ·subst h1;simp [hk,h]
 ·rw [if_neg h1]
  by_cases h2:j < k
  ·simp [h2,show j < k + 1 by omega]
  ·simp [h2,show ¬ j < k + 1 by omega,show k + (j - k)=j by omega,show k + 1 + (j - (k + 1))=j by omega]
theorem ret_rblock (w:World) (g:Nat) (x:List Int) (h:x.length=16) (n:Int) (tmps:Array Value) (Q:Ending→World→Prop) (hg:w.heap[g]?=some (.cells (row x) 43 (0,0))) (h4:tmps.getD 4 undef = .pointer (some ⟨g,0,none⟩)) (h5:tmps.getD 5 undef = .int .i64 n)
  (hQ:Q (.returned (.tuple #[.agg (row x),.int .i64 n])) w):bodyPost Tryz.prog Tryz.f20 Q .ret { tmps:=tmps,defers:=[] } w:=by
 refine bodyPost_ret (v:= .tuple #[.agg (row x),.int .i64 n]) ?_ rfl hQ
 rw [results_cell_tmp rfl,h4,h5]
 have:=run_loadVar_row (P:=Tryz.prog) w g 43 43 (row x) (0,0) _ hg Tryz.underlying43 rfl (info30' _ h)
 simp [asAddr,Result.andThen,this]
theorem rblock_any (b:Nat) (v:Value) (bs:List (List Int)) (i:Int) (w:World) (hR:RMem w b v bs):Calls Tryz.prog 20 #[.pointer (some ⟨b,0,none⟩),.int .i64 i] w fun e w'=>e = .returned (.tuple #[.agg (row (getB bs i)),.int .i64 (err (inb bs.length i))])∧w.grownBy w' none:=by
 have hg0:w.grownBy ((w.alloc (.cells (row zero) 43)).alloc (.cells (row zero) 43)) none:=grown_alloc (grown_alloc (grown_refl _ _) _) _
 have hp:=place_any b v bs i 0 _ (hR.kept hg0)
 have hii:inn bs.length i 0=inb bs.length i:=by simp [inn,inb]
 rw [hii] at hp
 by_cases hin:inb bs.length i=true
 ·have h0:=hin
  simp [inb] at h0
  obtain ⟨n,rfl⟩:∃ n:Nat,i=(n:Int):=⟨i.toNat,by omega⟩
  have hn:n < bs.length:=by omega
  obtain ⟨x,hx⟩:∃ x,bs[n]?=some x:=⟨_,List.getElem?_eq_getElem hn⟩
  have hx16:=hR.len x (List.mem_of_getElem? hx)
  have hgx:getB bs n=x:=by rw [getB,hin,if_pos rfl,Int.toNat_natCast,List.getD_eq_getElem?_getD,hx];rfl
  obtain ⟨y0,hy0⟩:∃ y,x[0]?=some y:=⟨x[0]'(by omega),List.getElem?_eq_getElem (by omega)⟩
  obtain ⟨g,off,cap,rfl,_,_⟩:=hR.at (k:=0) hx hy0
  have hcell:∀ (k:Nat) (y:Int),x[k]?=some y→w.cell? ⟨g,off + (16 * n + k),none⟩=some (.int .u32 y):=fun k y hy=>by
   obtain ⟨g',off',cap',hv,h1,_⟩:=hR.at hx hy
   cases hv;exact h1
  have hc0:=hR.cell0
  have hf:=hR.few
  rw [hin,if_pos rfl,show (16 * (n:Int) + 0)=((16 * n:Nat):Int) by omega] at hp
  rw [hgx,hin,show err true=0 from rfl]
  obtain ⟨L,hL⟩:∃ L,L=16 * bs.length:=⟨_,rfl⟩
  obtain ⟨P,hP⟩:∃ P,P=16 * n:=⟨_,rfl⟩
  rw [← hP] at hp hcell
  rw [← hL] at hc0
  have hPL:P + 16 ≤ L:=by omega
  have hL2:L ≤ 4096:=by omega
  have hgl:g < w.heap.size:=block_lt_of_cell (hcell 0 _ hy0)
  have hbl:b < w.heap.size:=block_lt_of_cell hc0
  have HP:=qh hp
  have HX:=qh hx16
  have HC:=qh hcell
  clear hR hp hx hy0 hx16 hcell hin hn hgx h0 hL hP hf hii hg0
  go_enter Tryz.func20,Tryz.ntmps20
  go_wp2_with (go_at_call 55;((refine HP.out.mono ?_);rintro e w' ⟨rfl,rfl⟩))
  go_loopw [8] (fun i wr=>∃ k:Nat,k ≤ 16∧i = .int .i64 (k:Int)∧wr=(w.alloc (.cells (row zero) 43)).alloc (.cells (row (cp x zero k)) 43)) (fun i _=>16 - (intOf i).toNat)
  case atStart=>exact ⟨0,by omega,rfl,by rw [cp_zero]⟩
  case round=>
   obtain ⟨k,hk,rfl,rfl⟩:=hrel
   by_cases hlt:k < 16
   ·obtain ⟨y,hy⟩:∃ y,x[k]?=some y:=⟨_,List.getElem?_eq_getElem (by rw [HX.out];exact hlt)⟩
    have hcy:=HC.out k y hy
    have hr:(row (cp x zero k))[k]?=some (.int .u32 ((cp x zero k)[k]'(by rw [cp_len _ _ _ HX.out zero_size hk];exact hlt))):=by rw [row_get,List.getElem?_eq_getElem (by rw [cp_len _ _ _ HX.out zero_size hk];exact hlt)];rfl
    have HS:Hid ((row (cp x zero k)).setIfInBounds k (.int .u32 y)=row (cp x zero (k + 1))):=qh (by rw [show (Value.int .u32 y)=U y from rfl,row_set,cp_set x zero k y HX.out zero_size hy])
    have hw:IntKind.i64.wrap ((P:Int) + (k:Int))=((P + k:Nat):Int):=by simp [IntKind.wrap,IntKind.bits,IntKind.signed];omega
    have hkL:P + k < L:=by omega
    clear hy
    go_wp2_with fail
    go_roundw
    case rel=>exact ⟨k + 1,by omega,by go_num,by rw [HS.out]⟩
    case measure=>simp [intOf];omega
   ·have hkn:k=16:=by omega
    subst hkn
    rw [cp_all x zero HX.out zero_size]
    clear hk hlt
    go_wp2_with (first
     | ((with_reducible refine load_any x 6 (w.heap.size + 1) ?_ ?_ HX.out ?_);(rfl);(exact heap_alloc2_new w _ _))
     | ((with_reducible refine store_any x zero 4 31 w.heap.size ?_ ?_ HX.out ?_ zero_size ?_);(rfl);(rfl);(exact heap_alloc2_old w _ _)))
    refine ret_rblock _ w.heap.size x HX.out 0 _ _ (setRow_heap _ _ _ _ _ _ (heap_alloc2_old w _ _)) (by rfl) (by rfl) ?_
    exact ⟨rfl,grown_setRow (grown_alloc (grown_alloc (grown_refl _ _) _) _) _ (Nat.le_refl _) _⟩
 ·have hgx:getB bs i=zero:=by rw [getB,if_neg hin]
  rw [if_neg hin] at hp
  rw [Bool.not_eq_true] at hin
  rw [hgx,hin,show err false=5 from rfl]
  have HP:=qh hp
  clear hR hp hin hii hg0
  go_enter Tryz.func20,Tryz.ntmps20
  go_wp2_with (first
   | (go_at_call 55;((refine HP.out.mono ?_);rintro e w' ⟨rfl,rfl⟩))
   | ((with_reducible refine load_any zero 6 (w.heap.size + 1) ?_ ?_ zero_size ?_);(rfl);(exact heap_alloc2_new w _ _))
   | ((with_reducible refine store_any zero zero 4 15 w.heap.size ?_ ?_ zero_size ?_ zero_size ?_);(rfl);(rfl);(exact heap_alloc2_old w _ _)))
  refine ret_rblock _ w.heap.size zero zero_size 5 _ _ (setRow_heap _ _ _ _ _ _ (heap_alloc2_old w _ _)) (by rfl) (by rfl) ?_
  exact ⟨rfl,grown_setRow (grown_alloc (grown_alloc (grown_refl _ _) _) _) _ (Nat.le_refl _) _⟩
end Go.Proofs.YtenhdijbcdkfbaaGreatDoor.pp
namespace Go.Proofs.YtenhdijbcdkfbaaGreatDoor.pp
set_option linter.unusedVariables false
set_option linter.unusedSimpArgs false
set_option maxRecDepth 1000000
set_option maxHeartbeats 16000000
open Go Go.ChangeShapes Go.WideShapes Go.ChangeAt Go.RowKit
theorem rset_block_any (b:Nat) (v:Value) (bs:List (List Int)) (i:Int) (x:List Int) (hx16:x.length=16) (w:World) (hR:RMem w b v bs):Calls Tryz.prog 50 #[.pointer (some ⟨b,0,none⟩),.int .i64 i,.agg (row x)] w fun e w'=>e = .returned (.int .i64 (err (inb bs.length i)))∧RMem w' b v (setB bs i x)∧w.grownBy w' v.ownBlock:=by
 have hg0:w.grownBy (w.alloc (.cells (row x) 43)) none:=grown_alloc (grown_refl _ _) _
 have hp:=place_any b v bs i 0 _ (hR.kept hg0)
 have hii:inn bs.length i 0=inb bs.length i:=by simp [inn,inb]
 rw [hii] at hp
 by_cases hin:inb bs.length i=true
 ·have h0:=hin
  simp [inb] at h0
  obtain ⟨n,rfl⟩:∃ n:Nat,i=(n:Int):=⟨i.toNat,by omega⟩
  have hn:n < bs.length:=by omega
  obtain ⟨old,hold⟩:∃ old,bs[n]?=some old:=⟨_,List.getElem?_eq_getElem hn⟩
  have ho16:=hR.len old (List.mem_of_getElem? hold)
  have hset:setB bs n x=bs.set n x:=by rw [setB,hin,if_pos rfl,Int.toNat_natCast]
  obtain ⟨y0,hy0⟩:∃ y,old[0]?=some y:=⟨old[0]'(by omega),List.getElem?_eq_getElem (by omega)⟩
  obtain ⟨g,off,cap,rfl,_,_⟩:=hR.at (k:=0) hold hy0
  have hf:=hR.few
  rw [hin,if_pos rfl,show (16 * (n:Int) + 0)=((16 * n:Nat):Int) by omega] at hp
  rw [hset,hin,show err true=0 from rfl]
  obtain ⟨L,hL⟩:∃ L,L=16 * bs.length:=⟨_,rfl⟩
  obtain ⟨P,hP⟩:∃ P,P=16 * n:=⟨_,rfl⟩
  rw [← hP] at hp
  rw [← hL] at hR ⊢
  have hPL:P + 16 ≤ L:=by omega
  have hL2:L ≤ 4096:=by omega
  have HP:=qh hp
  have HX:=qh hx16
  have HO:=qh ho16
  have HR:=qh hR
  have HQ:=qh hP
  have HLL:=qh hL
  have HN:=qh hold
  have HNN:=qh hn
  clear hR hp hx16 hy0 ho16 hold hin hn hset h0 hL hP hf hii hg0
  go_enter Tryz.func50,Tryz.ntmps50
  go_wp2_with (go_at_call 55;((with_reducible refine HP.out.mono ?_);rintro e w' ⟨rfl,rfl⟩))
  go_loopw [8] (fun i wr=>∃ k:Nat,k ≤ 16∧i = .int .i64 (k:Int)∧RMem wr b (.slice (some ⟨g,off,none⟩) L cap) (bs.set n (cp x old k))∧wr.heap[w.heap.size]?=some (.cells (row x) 43 (0,0))∧w.grownBy wr (some g)) (fun i _=>16 - (intOf i).toNat)
  case atStart=>
   refine ⟨0,by omega,rfl,?_,heap_alloc_new _ _,grown_alloc (grown_refl _ _) _⟩
   have:bs.set n (cp x old 0)=bs:=by
    obtain ⟨h1,h2⟩:=List.getElem?_eq_some_iff.1 HN.out
    rw [cp_zero,← h2];exact List.set_getElem_self h1
   rw [this];exact HR.out.kept (grown_alloc (grown_refl _ _) _)
  case round=>
   obtain ⟨k,hk,rfl,hr,hb,hg⟩:=hrel
   by_cases hlt:k < 16
   ·obtain ⟨y,hy⟩:∃ y,x[k]?=some y:=⟨_,List.getElem?_eq_getElem (by rw [HX.out];exact hlt)⟩
    have hcp:=cp_len x old k HX.out HO.out hk
    obtain ⟨z,hz⟩:∃ z,(cp x old k)[k]?=some z:=⟨_,List.getElem?_eq_getElem (by rw [hcp];exact hlt)⟩
    have hn':(bs.set n (cp x old k))[n]?=some (cp x old k):=List.getElem?_set_self HNN.out
    obtain ⟨g',off',cap',hv,hcell,hfz⟩:=hr.at hn' hz
    rw [List.length_set,← HLL.out] at hv
    cases hv
    have hput:=hr.put y hn' hlt
    rw [List.set_set,cp_set x old k y HX.out HO.out hy] at hput
    have hc0:=hr.cell0
    rw [← HQ.out] at hcell hfz hput
    have hcx:wr.cell? ⟨w.heap.size,k,none⟩=some (.int .u32 y):=by rw [cell_of_row _ _ k _ _ _ hb,row_get,hy];rfl
    have hw:IntKind.i64.wrap ((P:Int) + (k:Int))=((P + k:Nat):Int):=by simp [IntKind.wrap,IntKind.bits,IntKind.signed];omega
    have hkL:P + k < L:=by omega
    have HPUT:=qh hput
    have HB:=qh hb
    have HG:=qh hg
    have HGB:Hid (w.heap.size ≠ g):=qh fun e=>by
     obtain ⟨c,hc⟩:=hr.bl g rfl
     exact tyne hb hc (by decide) e
    clear hr hb hg hy hz hn' hput hcp
    go_wp2_with fail
    go_region
    have hd:∀ W:World,W.grownBy W.drew none:=fun W=>⟨rfl,rfl,rfl,Nat.le_refl _,fun _ _ _=>rfl⟩
    go_wp2_with fail
    go_roundw
    case rel=>exact ⟨k + 1,by omega,by go_num,HPUT.out.1.kept (hd _),(heap_setCell_other _ _ _ _ HGB.out).trans HB.out,grown_trans (grown_trans HG.out HPUT.out.2) (grown_some (hd _) _)⟩
    case measure=>simp [intOf];omega
   ·have hkn:k=16:=by omega
    subst hkn
    rw [cp_all x old HX.out HO.out] at hr
    have HR2:=qh hr
    have HG:=qh hg
    clear hr hb hg
    go_wp2_with fail
    go_ret
    exact ⟨rfl,HR2.out,HG.out⟩
 ·rw [if_neg hin] at hp
  rw [setB,if_neg hin]
  rw [Bool.not_eq_true] at hin
  rw [hin,show err false=5 from rfl]
  have HP:=qh hp
  have HR:=qh hR
  clear hR hp hin hii hg0 hx16
  go_enter Tryz.func50,Tryz.ntmps50
  go_wp2_with (go_at_call 55;((with_reducible refine HP.out.mono ?_);rintro e w' ⟨rfl,rfl⟩))
  go_ret
  exact ⟨rfl,HR.out.kept (grown_alloc (grown_refl _ _) _),grown_some (grown_alloc (grown_refl _ _) _) _⟩
theorem rnew_err (n:Int) (w:World) (h:n < 1 ∨ 256 < n):Calls Tryz.prog 6 #[.int .i64 n] w fun e w'=>e = .returned (.tuple #[.pointer none,.int .i64 2])∧w=w':=by
 by_cases h0:n < 1
 ·clear h
  go_enter Tryz.func6,Tryz.ntmps6
  go_wp2
  go_ret2
  exact ⟨rfl,rfl⟩
 ·have h1:decide (n < 1)=false:=by simp;omega
  have h3:decide (256 < n)=true:=by simp;omega
  clear h h0
  go_enter Tryz.func6,Tryz.ntmps6
  go_wp2
  go_ret2
  exact ⟨rfl,rfl⟩
theorem info26:(Tryz.prog.info? 41).map (fun i=>(i.zero,i.size,i.bytes))=some (some (.int .u32 0),1,4):=by kernel_rfl
theorem flat_zero:∀ n,(List.replicate n zero).flatten.map U=List.replicate (16 * n) (.int .u32 0)
 | 0=>rfl
 | n + 1=>by
  rw [List.replicate_succ,List.flatten_cons,List.map_append,flat_zero n,show 16 * (n + 1)=16 + 16 * n by omega,← List.replicate_append_replicate]
  rfl
theorem rnew_ok (n:Nat) (w:World) (h1:1 ≤ n) (h2:n ≤ 256):Calls Tryz.prog 6 #[.int .i64 (n:Int)] w fun e w'=>∃ b v,e = .returned (.tuple #[.pointer (some ⟨b,0,none⟩),.int .i64 0])∧RMem w' b v (List.replicate n zero)∧w.grownBy w' none∧w.heap.size ≤ b∧∀ k,v.ownBlock=some k→w.heap.size ≤ k:=by
 obtain ⟨i0,hi,hz0,hz1,hz2⟩:=info_parts info26
 have hd1:decide ((n:Int) < 1)=false:=by simp;omega
 have hd2:decide (256 < (n:Int))=false:=by simp;omega
 obtain ⟨m,hm⟩:∃ m,m=16 * n:=⟨_,rfl⟩
 have hw:IntKind.i64.wrap (16 * (n:Int))=(m:Int):=by simp [IntKind.wrap,IntKind.bits,IntKind.signed];omega
 have HMM:=qh hm
 have hm2:m ≤ 4096:=by omega
 obtain ⟨cs,hcs⟩:∃ cs:List Value,cs=List.replicate m (.int .u32 0):=⟨_,rfl⟩
 have HCS:=qh hcs
 have H2:=qh h2
 clear hm h1 h2 hcs
 go_enter Tryz.func6,Tryz.ntmps6
 go_wp2_with (((with_reducible refine make_at 76 41 i0 (.int .u32 0) 11 11 m Tryz.underlying76 hi hz0 hz1 ?_ ?_ ?_ ?_ ?_ cs ?_ ?_);(rfl);(rfl);(rfl);(rw [hz2];omega);(omega);(exact HCS.out)))
 go_ret2
 have hfl:(List.replicate n zero).flatten.map U=cs:=by rw [flat_zero,← HMM.out,HCS.out]
 have hcl:cs.length=m:=by rw [HCS.out,List.length_replicate]
 refine ⟨_,_,rfl,⟨heap_alloc2_new w _ _,.inr ⟨w.heap.size,0,m,cs.toArray,by rw [hfl,hcl],heap_alloc2_old w _ _,by rw [hfl,hcl];exact Nat.le_refl _,by unfold maxLen;omega,by simp [hcl],fun k x hk=>by rw [hfl] at hk;simpa using hk⟩,fun x hx=>by rw [List.eq_of_mem_replicate hx];rfl,by simpa using H2.out⟩,grown_alloc (grown_alloc (grown_refl _ _) _) _,by omega,fun k hk=>by simp [Value.ownBlock] at hk;omega⟩
end Go.Proofs.YtenhdijbcdkfbaaGreatDoor.pp
