/-
 The iterator that goes over who must be asked, rising: contract. Conditions: those that each theorem names (an entry's, a kind's and a core's variables; the library's table lies in its variable).
 Who must be asked, as package entry answers: contract. Conditions: those that each theorem names (the library's table lies in its variable).
 Who must be asked, and what an ask makes of an entry, as the document's own text answers: contracts. No condition but the bounds that each theorem names.
 What an ask makes of an entry, as the document's own text answers: contract. No condition but the bounds that each theorem names.
 What an ask makes of an entry, as plain facts: who is never asked, what x gets. No condition.
-/
import Derived.Test.YtenhdijbcdkfbaaGreatDoorTl
import Derived.Test.YtenhdijbcdkfbaaGreatDoorEn
import Derived.Test.YtenhdijbcdkfbaaGreatDoorMa
import Derived.Test.YtenhdijbcdkfbaaGreatDoorRf
import Derived.TacticsInMore
import Derived.LoopTactic
namespace Go.Proofs.YtenhdijbcdkfbaaGreatDoor.en
set_option linter.unusedVariables false
set_option linter.unusedSimpArgs false
set_option maxRecDepth 1000000
set_option maxHeartbeats 16000000
open Go Go.RowKit Go.Shelf
open Go.Proofs.YtenhdijbcdkfbaaGreatDoor.mm (wi wi_lt ones ones_len Tab all_in all_stops)
open Go.Proofs.YtenhdijbcdkfbaaGreatDoor.tt (Holds SeqR rangeR keeps_up)
theorem wide_fn (f:FuncId):Fence.wide.fn f=True:=rfl
attribute [local simp] wide_fn
attribute [local go_sem] Oper.semAt_some
theorem round_in (l' m':Nat) {m:Nat} {P:Program} {l:Nat} {f:FuncId} {tmps:Array Value} {assign body:Code} {w:World} {R:Ending→World→Prop}
  (h:RoundIn Fence.wide m P l f tmps assign body w R):RoundIn (Fence.wide.inRound l') m' P l f tmps assign body w R:=⟨h.1,fun c cs _=>h.2 c cs (fun d hd=>by cases hd)⟩
theorem ownFrom_up {β:Type} {B B':Nat} {I:β→World→Prop} (h:OwnFrom B I) (hB:B ≤ B'):OwnFrom B' I:=fun s W W' row hs hg hr=>h s W W' row hs hg (fun r e=>⟨Nat.le_trans hB (hr r e).1,(hr r e).2⟩)
theorem ownFrom_map {β γ:Type} {B:Nat} {I:β→World→Prop} (f:γ→β) (h:OwnFrom B I):OwnFrom B (fun s W=>I (f s) W):=fun s W W' row hs hg hr=>h (f s) W W' row hs hg hr
theorem boxed_from {B:Nat} {β:Type} (k:Nat) (t:TypeId) (f:β→Value):OwnFrom B (fun s W=>Boxed W k t (f s)):=fun s A B' row hs hg hr=>hs.kept hg fun e=>by
 obtain ⟨hb,o,ho,hc⟩:=hr k e.symm
 rw [show A.heap[k]?=_ from hs] at ho;cases ho;cases hc
def sieve (x:Int) (l:List Nat):List Nat:=l.filter (fun j:Nat=>decide ((j:Int) ≠ x))
theorem sieve_in {x:Int} (l:List Nat) {j:Nat} (h:(j:Int) ≠ x):sieve x (l ++ [j])=sieve x l ++ [j]:=by simp [sieve,h]
theorem sieve_out {x:Int} (l:List Nat) {j:Nat} (h:(j:Int)=x):sieve x (l ++ [j])=sieve x l:=by simp [sieve,h]
theorem sieve_pre {x:Int} {l m:List Nat} (h:l <+: m):sieve x l <+: sieve x m:=h.filter _
theorem sieve_len (x:Int) (l:List Nat):(sieve x l).length ≤ l.length:=List.length_filter_le _ _
def want (o:Int) (s:Nat) (k x:Int):List Nat:=if k=1∧o=-1 then [] else sieve x (ones (wi s o))
def encI (j:Nat):Array Value:=#[.int .i64 (j:Int)]
def KpX (n₀ xb:Nat) (A B:World):Prop:=Below n₀ A B∧B.heap[xb]?=A.heap[xb]?
theorem KpX.trans {n₀ xb:Nat} {A B C:World} (h:KpX n₀ xb A B) (k:KpX n₀ xb B C):KpX n₀ xb A C:=⟨h.1.trans k.1,k.2.trans h.2⟩
theorem KpX.refl {n₀ xb:Nat} (A:World):KpX n₀ xb A A:=⟨Below.refl _ _,rfl⟩
theorem KpX.put {n₀ xb:Nat} {w:World} (hn:n₀ ≤ w.heap.size) (hx:xb < w.heap.size) (W:World) (l:Nat) (o o':Obj) (hl:w.heap.size ≤ l) (h:W.heap[l]?=some o) (h1:o.isCells=false) (h2:o.isWalk=false):KpX n₀ xb W (W.putObj l o'):=
 ⟨belowK_b hn W l o o' hl h h1 h2,World.putObj_heap_other (by omega)⟩
theorem seqK_mono {α:Type} {F:Fence} {n:Nat} {P:Program} {g:Nat} {lb:Array Value} {encs:α→Array Value} {Kp Kp':World→World→Prop} {S Sp:List α→Prop} {N:Nat} {w:World}
  (h:SeqStopsK F n P g lb encs Kp S Sp N w) (hk:∀ A B,Kp' A B→Kp A B):SeqStopsK F n P g lb encs Kp' S Sp N w:=fun l J Jx W hW hJ hJx hY h0=>
 h l J Jx W hW hJ hJx (fun pre x W1 hj hl=>by
  obtain ⟨fn,tmps,assign,body,hy,hR⟩:=hY pre x W1 hj hl
  exact ⟨fn,tmps,assign,body,hy,hR.mono fun e W' h=>h.imp (fun h=>⟨h.1,h.2.1,hk _ _ h.2.2⟩) id⟩) h0
theorem must1_none (n:Nat) (hn:4 ≤ n) (l kb eb xb:Nat) (s:Nat) (x:Int) (J Jx:List Nat→World→Prop) (W:World) (hA:OwnFrom W.heap.size J)
  (hK:W.cell? ⟨kb,0,none⟩=some (.int .u8 1)) (hE:W.heap[eb]?=some (.cells #[.int .i64 (-1),.int .u32 (s:Int)] 58 (0,0))) (h0:J [] W) :
  CallsIn Fence.wide n Tryz.prog 112 #[.func (.yield l) #[] #[],.pointer (some ⟨kb,0,none⟩),.pointer (some ⟨eb,0,none⟩),.pointer (some ⟨xb,0,none⟩)] W fun e W'=>(∃ v,e = .returned v)∧J [] W':=by
 have hg1:W.grownBy (W.alloc (.cells #[.func (.yield l) #[] #[]] 61)) none:=grown_alloc (grown_refl _ _) _
 have hK1:=hg1.cell hK (by simp)
 obtain ⟨c0,c1⟩:=cells2 (row_grown hE hg1)
 have H0:=qh (hA.alloc (.cells #[.func (.yield l) #[] #[]] 61) h0)
 clear hA hK hE h0 hg1
 refine callsIn_of_wp_marks Tryz.func112 rfl trivial ?_ rfl
 simp only [Tryz.ntmps112,List.size_toArray,List.length_cons,List.length_nil,Nat.reduceAdd,Nat.reduceSub,Array.replicate_succ,Array.replicate_zero,List.push_toArray,List.append_toArray,List.nil_append,List.cons_append]
 gi_wp2
 exact ⟨_,results_none rfl _ _ _,⟨_,rfl⟩,H0.out⟩
theorem must1_k (n:Nat) (hn:4 ≤ n) (l kb eb xb n₀:Nat) (o:Int) (s:Nat) (k x:Int) (hs:s < 4294967296) (hno:k ≠ 1) (J Jx:List Nat→World→Prop) (W:World) (hA:OwnFrom W.heap.size J) (hAx:OwnFrom W.heap.size Jx)
  (hY:∀ (pre:List Nat) (j:Nat) W1,J pre W1→W.heap.size + 1 ≤ W1.heap.size→pre.length < (ones (wi s o)).length→YieldAt Fence.wide (n - 1) Tryz.prog l (encI j) W1 fun e W'=>
   Holds W.heap.size 1 W1 W'∧((e = .returned (.bool true)∧J (pre ++ [j]) W'∧KpX n₀ xb W1 W') ∨ (e = .returned (.bool false)∧Jx (pre ++ [j]) W')))
  (hn0:2 < n₀) (hnW:n₀ ≤ W.heap.size) (hK:W.cell? ⟨kb,0,none⟩=some (.int .u8 k)) (hE:W.heap[eb]?=some (.cells #[.int .i64 o,.int .u32 (s:Int)] 58 (0,0))) (hX:Boxed W xb 3 (.int .i64 x)) (hT:Tab W) (h0:J [] W) :
  CallsIn Fence.wide n Tryz.prog 112 #[.func (.yield l) #[] #[],.pointer (some ⟨kb,0,none⟩),.pointer (some ⟨eb,0,none⟩),.pointer (some ⟨xb,0,none⟩)] W fun e W'=>(∃ v,e = .returned v) ∧
   ((∃ ys,ys=sieve x (ones (wi s o))∧J ys W') ∨ (∃ pre,pre <+: sieve x (ones (wi s o))∧Jx pre W')):=by
 have hg1:W.grownBy (W.alloc (.cells #[.func (.yield l) #[] #[]] 61)) none:=grown_alloc (grown_refl _ _) _
 have b1:=Boxed.new W 61 (.func (.yield l) #[] #[])
 have hn1:1 ≤ n:=by omega
 have hn2:1 ≤ n - 1:=by omega
 have hn3:1 ≤ n - 1 - 1:=by omega
 have hK1:=hg1.cell hK (by simp)
 have HE1:=qh (row_grown hE hg1)
 obtain ⟨c0,c1⟩:=cells2 HE1.out
 have HXB:=qh hX
 have HT0:=qh hT
 have HTL:=qh hT.lt
 have HN0:=qh hn0
 have HNW:=qh hnW
 have HKN:Hid (∀ w,_):=qh fun w=>known_any o s w hs
 have hml:=wi_lt s o hs
 have HML:=qh hml
 have HG1:=qh hg1
 have HYY:=qh hY
 have HA:=qh hA
 have HAX:=qh hAx
 have H0:=qh h0
 generalize wi s o=m at HKN HML HYY hml ⊢
 have ek:(k == 1)=false:=by simpa using hno
 clear hY hA hAx h0 hg1 hK hE hX hT hs hml hn0 hnW hno
 refine callsIn_of_wp_marks Tryz.func112 rfl trivial ?_ rfl
 simp only [Tryz.ntmps112,List.size_toArray,List.length_cons,List.length_nil,Nat.reduceAdd,Nat.reduceSub,Array.replicate_succ,Array.replicate_zero,List.push_toArray,List.append_toArray,List.nil_append,List.cons_append]
 gi_wp2_with (first
  | (gi_at_call 109;((with_reducible refine (callsIn_wide.2 (HKN.out _)).mono ?_);rintro e w5 ⟨rfl,hg5⟩;have HG5:=qh hg5;clear hg5))
  | (gi_at_call 77;refine (all_in _ _ _).mono ?_;rintro e w' ⟨rfl,rfl⟩))
 obtain ⟨W0,hW0⟩:∃ W0,W0=w5.alloc (.cells #[.int .u32 (m:Int)] 56):=⟨_,rfl⟩
 have hs5:=HG5.out.size
 simp only [World.size_alloc] at hs5
 have hgW:W.grownBy W0 none:=by rw [hW0];exact grown_alloc (grown_trans HG1.out HG5.out) _
 have hs0:W0.heap.size=w5.heap.size + 1:=by rw [hW0];simp
 have b2:Boxed W0 w5.heap.size 56 (.int .u32 (m:Int)):=by rw [hW0];exact Boxed.new _ _ _
 have b1':Boxed W0 W.heap.size 61 (.func (.yield l) #[] #[]):=by rw [hW0];exact (b1.kept HG5.out (by simp)).alloc _
 have hx0:=HXB.out.kept hgW (by simp)
 have hxl:=HXB.out.lt
 have hT0:Tab W0:=HT0.out.below (below_of hgW) HTL.out
 have hJ0:J [] W0:=HA.out [] W W0 none H0.out hgW (fun r e=>by cases e)
 have hnw:=HNW.out
 have hn0:=HN0.out
 rw [← hW0]
 clear hW0 HG5 HE1 c0 c1 hK1 b1
 apply wpIn_rangeFunc_ownH rfl hn1 (gf:=103) (lb:=#[.pointer (some ⟨w5.heap.size,0,none⟩)]) rfl trivial (enters_of Tryz.func103 (by kernel_rfl) rfl)
  (Kp:=KpX n₀ xb) (seqK_mono (all_stops (n - 1) hn2 w5.heap.size n₀ m HML.out W0 (by omega) hn0 b2.cell hT0) (fun _ _ h=>h.1)) (fun {A B C} h k=>KpX.trans h k) (KpX.put (by omega) (by omega)) (Below.refl _ _) (fun _=>rfl)
  (fun pre X=>(Boxed X W.heap.size 61 (.func (.yield l) #[] #[])∧Boxed X xb 3 (.int .i64 x))∧J (sieve x pre) X)
  (fun cc ys X=>cc = .ret∧Jx (sieve x ys) X)
  (OwnFrom.and (OwnFrom.and (boxed_from _ _ (fun _=>_)) (boxed_from _ _ (fun _=>_))) (ownFrom_map _ (ownFrom_up HA.out (by omega))))
  (fun c'=>OwnFrom.and (fun s A B row hs hg hr=>hs) (ownFrom_map _ (ownFrom_up HAX.out (by omega))))
  ⟨⟨b1',hx0⟩,hJ0⟩
  (fun j a' X=>a'={ tmps:=#[.func (.yield l) #[] #[],.pointer (some ⟨kb,0,none⟩),.pointer (some ⟨eb,0,none⟩),.pointer (some ⟨xb,0,none⟩),.pointer (some ⟨W.heap.size,0,none⟩),.int .i64 (j:Int),.int .u8 k,.bool false,.bool false,undef,undef,undef,.bool false,.agg #[.int .i64 o,.int .u32 (s:Int)],.int .u32 (m:Int),.func (.func 103) #[] #[.pointer (some ⟨w5.heap.size,0,none⟩)],.int .i64 (j:Int),undef,undef,undef,undef,undef,undef,undef,undef,undef],defers:=[] })
 case hAx=>
  rintro x a' s A B row h hg hr
  exact h
 case hassign=>
  rintro l' pre j X K ⟨⟨hb,hxb⟩,hJ⟩ hK
  have HK:=qh hK
  have HJ:=qh hJ
  have HB:=qh hb
  have HXX:=qh hxb
  clear hK hJ hb hxb
  gi_wp2
  exact HK.out _ _ (KeepsFrom.refl _ _) (KpX.refl _) ⟨⟨HB.out,HXX.out⟩,HJ.out⟩ rfl
 case hbody=>
  rintro l' pre j a' X hl' _ ⟨⟨hb,hxb⟩,hJ⟩ rfl hlt
  have hxc:=hxb.cell
  have hbc:=hb.cell
  have HB:=qh hb
  have HXX:=qh hxb
  by_cases hj:(j:Int)=x
  ·have ej:((j:Int) != x)=false:=by simpa using hj
   have HJ:=qh hJ
   have HS:=qh (sieve_out pre hj)
   clear hJ hb hxb hlt hl' hj
   gi_wp2
   exact ⟨KeepsFrom.refl _ _,KpX.refl _,⟨HB.out,HXX.out⟩,by rw [HS.out];exact HJ.out⟩
  ·have ej:((j:Int) != x)=true:=by simpa using hj
   obtain ⟨fn,tmps,assign,body,hy,hR⟩:=HYY.out (sieve x pre) j X hJ hb.lt (Nat.lt_of_le_of_lt (sieve_len x pre) hlt)
   have HS:=qh (sieve_in pre hj)
   unfold encI at hy
   clear hJ hb hxb hlt hl' hj
   gi_wp2
   refine (round_in _ _ hR).mono ?_
   rintro e X3 ⟨hkf,(⟨rfl,hJ3,hk3⟩ | ⟨rfl,hJx3⟩)⟩
   ·have hb3:Boxed X3 W.heap.size 61 (.func (.yield l) #[] #[]):=(hkf.same _ (Nat.le_refl _) (by omega)).trans HB.out
    have hx3:Boxed X3 xb 3 (.int .i64 x):=hk3.2.trans HXX.out
    gi_wp2
    exact ⟨keeps_up hkf.keeps (by omega),hk3,⟨hb3,hx3⟩,by rw [HS.out];exact hJ3⟩
   ·gi_wp2
    exact ⟨keeps_up hkf.keeps (by omega),rfl,by rw [HS.out];exact hJx3⟩
 case hdone=>
  rintro D ys X hD rfl ⟨⟨hb,hxb⟩,hJ⟩ hK
  gi_wp2
  refine ⟨by simp,.inl ⟨_,_,rfl,run_takeDeferred hK,?_⟩⟩
  refine ⟨_,results_none rfl _ _ _,⟨_,rfl⟩,.inl ⟨_,rfl,?_⟩⟩
  exact HA.out.putObj _ hJ (by omega) hK rfl
 case hstop=>
  rintro D c' pre X hD hpre ⟨rfl,hJ⟩ hK
  gi_wp2
  refine ⟨by simp,.inl ⟨_,_,rfl,run_takeDeferred hK,?_⟩⟩
  refine ⟨_,results_none rfl _ _ _,⟨_,rfl⟩,.inr ⟨_,sieve_pre hpre,?_⟩⟩
  exact HAX.out.putObj _ hJ (by omega) hK rfl
theorem must1_o (n:Nat) (hn:4 ≤ n) (l kb eb xb n₀:Nat) (o:Int) (s:Nat) (k x:Int) (hs:s < 4294967296) (hno:o ≠ -1) (J Jx:List Nat→World→Prop) (W:World) (hA:OwnFrom W.heap.size J) (hAx:OwnFrom W.heap.size Jx)
  (hY:∀ (pre:List Nat) (j:Nat) W1,J pre W1→W.heap.size + 1 ≤ W1.heap.size→pre.length < (ones (wi s o)).length→YieldAt Fence.wide (n - 1) Tryz.prog l (encI j) W1 fun e W'=>
   Holds W.heap.size 1 W1 W'∧((e = .returned (.bool true)∧J (pre ++ [j]) W'∧KpX n₀ xb W1 W') ∨ (e = .returned (.bool false)∧Jx (pre ++ [j]) W')))
  (hn0:2 < n₀) (hnW:n₀ ≤ W.heap.size) (hK:W.cell? ⟨kb,0,none⟩=some (.int .u8 1)) (hE:W.heap[eb]?=some (.cells #[.int .i64 o,.int .u32 (s:Int)] 58 (0,0))) (hX:Boxed W xb 3 (.int .i64 x)) (hT:Tab W) (h0:J [] W) :
  CallsIn Fence.wide n Tryz.prog 112 #[.func (.yield l) #[] #[],.pointer (some ⟨kb,0,none⟩),.pointer (some ⟨eb,0,none⟩),.pointer (some ⟨xb,0,none⟩)] W fun e W'=>(∃ v,e = .returned v) ∧
   ((∃ ys,ys=sieve x (ones (wi s o))∧J ys W') ∨ (∃ pre,pre <+: sieve x (ones (wi s o))∧Jx pre W')):=by
 have hg1:W.grownBy (W.alloc (.cells #[.func (.yield l) #[] #[]] 61)) none:=grown_alloc (grown_refl _ _) _
 have b1:=Boxed.new W 61 (.func (.yield l) #[] #[])
 have hn1:1 ≤ n:=by omega
 have hn2:1 ≤ n - 1:=by omega
 have hn3:1 ≤ n - 1 - 1:=by omega
 have hK1:=hg1.cell hK (by simp)
 have HE1:=qh (row_grown hE hg1)
 obtain ⟨c0,c1⟩:=cells2 HE1.out
 have HXB:=qh hX
 have HT0:=qh hT
 have HTL:=qh hT.lt
 have HN0:=qh hn0
 have HNW:=qh hnW
 have HKN:Hid (∀ w,_):=qh fun w=>known_any o s w hs
 have hml:=wi_lt s o hs
 have HML:=qh hml
 have HG1:=qh hg1
 have HYY:=qh hY
 have HA:=qh hA
 have HAX:=qh hAx
 have H0:=qh h0
 generalize wi s o=m at HKN HML HYY hml ⊢
 have ek:(o == -1)=false:=by simpa using hno
 clear hY hA hAx h0 hg1 hK hE hX hT hs hml hn0 hnW hno
 refine callsIn_of_wp_marks Tryz.func112 rfl trivial ?_ rfl
 simp only [Tryz.ntmps112,List.size_toArray,List.length_cons,List.length_nil,Nat.reduceAdd,Nat.reduceSub,Array.replicate_succ,Array.replicate_zero,List.push_toArray,List.append_toArray,List.nil_append,List.cons_append]
 gi_wp2_with (first
  | (gi_at_call 109;((with_reducible refine (callsIn_wide.2 (HKN.out _)).mono ?_);rintro e w5 ⟨rfl,hg5⟩;have HG5:=qh hg5;clear hg5))
  | (gi_at_call 77;refine (all_in _ _ _).mono ?_;rintro e w' ⟨rfl,rfl⟩))
 obtain ⟨W0,hW0⟩:∃ W0,W0=w5.alloc (.cells #[.int .u32 (m:Int)] 56):=⟨_,rfl⟩
 have hs5:=HG5.out.size
 simp only [World.size_alloc] at hs5
 have hgW:W.grownBy W0 none:=by rw [hW0];exact grown_alloc (grown_trans HG1.out HG5.out) _
 have hs0:W0.heap.size=w5.heap.size + 1:=by rw [hW0];simp
 have b2:Boxed W0 w5.heap.size 56 (.int .u32 (m:Int)):=by rw [hW0];exact Boxed.new _ _ _
 have b1':Boxed W0 W.heap.size 61 (.func (.yield l) #[] #[]):=by rw [hW0];exact (b1.kept HG5.out (by simp)).alloc _
 have hx0:=HXB.out.kept hgW (by simp)
 have hxl:=HXB.out.lt
 have hT0:Tab W0:=HT0.out.below (below_of hgW) HTL.out
 have hJ0:J [] W0:=HA.out [] W W0 none H0.out hgW (fun r e=>by cases e)
 have hnw:=HNW.out
 have hn0:=HN0.out
 rw [← hW0]
 clear hW0 HG5 HE1 c0 c1 hK1 b1
 apply wpIn_rangeFunc_ownH rfl hn1 (gf:=103) (lb:=#[.pointer (some ⟨w5.heap.size,0,none⟩)]) rfl trivial (enters_of Tryz.func103 (by kernel_rfl) rfl)
  (Kp:=KpX n₀ xb) (seqK_mono (all_stops (n - 1) hn2 w5.heap.size n₀ m HML.out W0 (by omega) hn0 b2.cell hT0) (fun _ _ h=>h.1)) (fun {A B C} h k=>KpX.trans h k) (KpX.put (by omega) (by omega)) (Below.refl _ _) (fun _=>rfl)
  (fun pre X=>(Boxed X W.heap.size 61 (.func (.yield l) #[] #[])∧Boxed X xb 3 (.int .i64 x))∧J (sieve x pre) X)
  (fun cc ys X=>cc = .ret∧Jx (sieve x ys) X)
  (OwnFrom.and (OwnFrom.and (boxed_from _ _ (fun _=>_)) (boxed_from _ _ (fun _=>_))) (ownFrom_map _ (ownFrom_up HA.out (by omega))))
  (fun c'=>OwnFrom.and (fun s A B row hs hg hr=>hs) (ownFrom_map _ (ownFrom_up HAX.out (by omega))))
  ⟨⟨b1',hx0⟩,hJ0⟩
  (fun j a' X=>a'={ tmps:=#[.func (.yield l) #[] #[],.pointer (some ⟨kb,0,none⟩),.pointer (some ⟨eb,0,none⟩),.pointer (some ⟨xb,0,none⟩),.pointer (some ⟨W.heap.size,0,none⟩),.int .i64 (j:Int),.int .u8 1,.bool true,.bool true,.pointer (some ⟨eb,0,none⟩),.int .i64 o,.bool false,.bool false,.agg #[.int .i64 o,.int .u32 (s:Int)],.int .u32 (m:Int),.func (.func 103) #[] #[.pointer (some ⟨w5.heap.size,0,none⟩)],.int .i64 (j:Int),undef,undef,undef,undef,undef,undef,undef,undef,undef],defers:=[] })
 case hAx=>
  rintro x a' s A B row h hg hr
  exact h
 case hassign=>
  rintro l' pre j X K ⟨⟨hb,hxb⟩,hJ⟩ hK
  have HK:=qh hK
  have HJ:=qh hJ
  have HB:=qh hb
  have HXX:=qh hxb
  clear hK hJ hb hxb
  gi_wp2
  exact HK.out _ _ (KeepsFrom.refl _ _) (KpX.refl _) ⟨⟨HB.out,HXX.out⟩,HJ.out⟩ rfl
 case hbody=>
  rintro l' pre j a' X hl' _ ⟨⟨hb,hxb⟩,hJ⟩ rfl hlt
  have hxc:=hxb.cell
  have hbc:=hb.cell
  have HB:=qh hb
  have HXX:=qh hxb
  by_cases hj:(j:Int)=x
  ·have ej:((j:Int) != x)=false:=by simpa using hj
   have HJ:=qh hJ
   have HS:=qh (sieve_out pre hj)
   clear hJ hb hxb hlt hl' hj
   gi_wp2
   exact ⟨KeepsFrom.refl _ _,KpX.refl _,⟨HB.out,HXX.out⟩,by rw [HS.out];exact HJ.out⟩
  ·have ej:((j:Int) != x)=true:=by simpa using hj
   obtain ⟨fn,tmps,assign,body,hy,hR⟩:=HYY.out (sieve x pre) j X hJ hb.lt (Nat.lt_of_le_of_lt (sieve_len x pre) hlt)
   have HS:=qh (sieve_in pre hj)
   unfold encI at hy
   clear hJ hb hxb hlt hl' hj
   gi_wp2
   refine (round_in _ _ hR).mono ?_
   rintro e X3 ⟨hkf,(⟨rfl,hJ3,hk3⟩ | ⟨rfl,hJx3⟩)⟩
   ·have hb3:Boxed X3 W.heap.size 61 (.func (.yield l) #[] #[]):=(hkf.same _ (Nat.le_refl _) (by omega)).trans HB.out
    have hx3:Boxed X3 xb 3 (.int .i64 x):=hk3.2.trans HXX.out
    gi_wp2
    exact ⟨keeps_up hkf.keeps (by omega),hk3,⟨hb3,hx3⟩,by rw [HS.out];exact hJ3⟩
   ·gi_wp2
    exact ⟨keeps_up hkf.keeps (by omega),rfl,by rw [HS.out];exact hJx3⟩
 case hdone=>
  rintro D ys X hD rfl ⟨⟨hb,hxb⟩,hJ⟩ hK
  gi_wp2
  refine ⟨by simp,.inl ⟨_,_,rfl,run_takeDeferred hK,?_⟩⟩
  refine ⟨_,results_none rfl _ _ _,⟨_,rfl⟩,.inl ⟨_,rfl,?_⟩⟩
  exact HA.out.putObj _ hJ (by omega) hK rfl
 case hstop=>
  rintro D c' pre X hD hpre ⟨rfl,hJ⟩ hK
  gi_wp2
  refine ⟨by simp,.inl ⟨_,_,rfl,run_takeDeferred hK,?_⟩⟩
  refine ⟨_,results_none rfl _ _ _,⟨_,rfl⟩,.inr ⟨_,sieve_pre hpre,?_⟩⟩
  exact HAX.out.putObj _ hJ (by omega) hK rfl
end Go.Proofs.YtenhdijbcdkfbaaGreatDoor.en
namespace Go.Proofs.YtenhdijbcdkfbaaGreatDoor.en
set_option linter.unusedVariables false
set_option linter.unusedSimpArgs false
set_option maxRecDepth 1000000
set_option maxHeartbeats 16000000
open Go Go.RowKit Go.Shelf
open Go.Proofs.YtenhdijbcdkfbaaGreatDoor.mm (wi wo wi_lt wo_lt wi_in wi_out wo_in wo_out in_or anot_bit ones Tab with_any pow_lt)
open Go.Proofs.YtenhdijbcdkfbaaGreatDoor.tt (Holds SeqR rangeR keeps_up)
attribute [local simp] wide_fn
attribute [local go_sem] Oper.semAt_some
theorem must_stops (n:Nat) (hn:4 ≤ n) (kb eb xb n₀:Nat) (o:Int) (s:Nat) (k x:Int) (hs:s < 4294967296) (w:World) (hn0:2 < n₀) (hnw:n₀ ≤ w.heap.size) (hK:w.cell? ⟨kb,0,none⟩=some (.int .u8 k))
  (hE:w.heap[eb]?=some (.cells #[.int .i64 o,.int .u32 (s:Int)] 58 (0,0))) (hX:Boxed w xb 3 (.int .i64 x)) (hT:Tab w) :
  SeqR Fence.wide n Tryz.prog 112 #[.pointer (some ⟨kb,0,none⟩),.pointer (some ⟨eb,0,none⟩),.pointer (some ⟨xb,0,none⟩)] encI (KpX n₀ xb) (fun ys=>ys=want o s k x) (fun pre=>pre <+: want o s k x) (ones (wi s o)).length 1 w:=fun l J Jx W hW hJ hJx hY h0=>by
 have hK':=(hW.cell (p:=⟨kb,0,none⟩) (World.block_lt_of_cell? w _ hK)).trans hK
 have hE':=(hW.block eb (Array.getElem?_eq_some_iff.1 hE).1).trans hE
 have hX':Boxed W xb 3 (.int .i64 x):=(hW.block xb hX.lt).trans hX
 have hT':=hT.below hW hT.lt
 have hnW:n₀ ≤ W.heap.size:=Nat.le_trans hnw hW.size
 by_cases hk:k=1
 ·subst hk
  by_cases ho:o=-1
  ·subst ho
   have e:want (-1) s 1 x=[]:=if_pos ⟨rfl,rfl⟩
   exact (must1_none n hn l kb eb xb s x J Jx W hJ hK' hE' h0).mono fun e' W' h=>⟨h.1,.inl ⟨[],e.symm,h.2⟩⟩
  ·have e:want o s 1 x=sieve x (ones (wi s o)):=if_neg (fun h=>ho h.2)
   rw [e]
   exact must1_o n hn l kb eb xb n₀ o s 1 x hs ho J Jx W hJ hJx hY hn0 hnW hK' hE' hX' hT' h0
 ·have e:want o s k x=sieve x (ones (wi s o)):=if_neg (fun h=>hk h.1)
  rw [e]
  exact must1_k n hn l kb eb xb n₀ o s k x hs hk J Jx W hJ hJx hY hn0 hnW hK' hE' hX' hT' h0
theorem must_any (o:Int) (s:Nat) (k x:Int) (w:World):Calls Tryz.prog 100 #[.agg #[.int .i64 o,.int .u32 (s:Int)],.int .u8 k,.int .i64 x] w fun e w'=>
  e = .returned (.func (.func 112) #[] #[.pointer (some ⟨w.heap.size + 1,0,none⟩),.pointer (some ⟨w.heap.size,0,none⟩),.pointer (some ⟨w.heap.size + 2,0,none⟩)]) ∧
   w'=((w.alloc (.cells #[.int .i64 o,.int .u32 (s:Int)] 58)).alloc (.cells #[.int .u8 k] 5)).alloc (.cells #[.int .i64 x] 3):=by
 go_enter Tryz.func100,Tryz.ntmps100
 go_wp2
 go_ret
 exact ⟨rfl,rfl⟩
def fold (l:List Nat):Nat:=l.foldl (fun (m:Nat) (j:Nat)=>wi m (j:Int)) 0
theorem fold_snoc (l:List Nat) (j:Nat):fold (l ++ [j])=wi (fold l) (j:Int):=by simp [fold]
theorem fold_lt (l:List Nat):fold l < 4294967296:=by
 have:∀ (l:List Nat) m,m < 4294967296→l.foldl (fun (m:Nat) (j:Nat)=>wi m (j:Int)) m < 4294967296:=fun l=>by
  induction l with
  | nil=>exact fun m hm=>hm
  | cons j l ih=>exact fun m hm=>ih _ (wi_lt m j hm)
 exact this l 0 (by decide)
theorem fold_bit (l:List Nat) (h:∀ j ∈ l,j < 32) (i:Nat):(fold l).testBit i=decide (i ∈ l):=by
 have:∀ (l:List Nat) m,(∀ j ∈ l,j < 32)→(l.foldl (fun (m:Nat) (j:Nat)=>wi m (j:Int)) m).testBit i=(m.testBit i || decide (i ∈ l)):=fun l=>by
  induction l with
  | nil=>intro m _;simp
  | cons j l ih=>
   intro m hm
   rw [List.foldl_cons,ih _ (fun q hq=>hm q (List.mem_cons_of_mem _ hq)),wi_in m j (hm j (by simp)),Nat.testBit_or,Nat.testBit_two_pow,Bool.or_assoc]
   congr 1
   by_cases e:j=i
   ·subst e;simp
   ·have e':¬ i=j:=fun h=>e h.symm
    simp [e,e']
 have h0:=this l 0 h
 simpa [fold] using h0
theorem ones_mem {m i:Nat}:i ∈ ones m ↔ i < 32∧m.testBit i=true:=by unfold ones;rw [List.mem_filter,List.mem_range]
theorem bit_lt {m i:Nat} (hm:m < 4294967296) (h:m.testBit i=true):i < 32:=by
 by_cases hi:i < 32
 ·exact hi
 ·rw [Nat.testBit_lt_two_pow (Nat.lt_of_lt_of_le hm (by show 2 ^ 32 ≤ 2 ^ i;exact Nat.pow_le_pow_right (by decide) (by omega)))] at h
  cases h
theorem wo_bit (m:Nat) (x:Int) (hm:m < 4294967296) (i:Nat):(wo m x).testBit i=(m.testBit i && !decide ((i:Int)=x)):=by
 rcases in_or x with ⟨k,hk,rfl⟩ | h
 ·rw [wo_in m k hk,anot_bit m k i hm hk]
  congr 2
  rw [decide_eq_decide];omega
 ·rw [wo_out m x h]
  cases hb:m.testBit i
  ·rfl
  ·have:=bit_lt hm hb
   rw [decide_eq_false (by omega)];rfl
theorem fold_sieve (m:Nat) (x:Int) (hm:m < 4294967296):fold (sieve x (ones m))=wo m x:=by
 apply Nat.eq_of_testBit_eq
 intro i
 rw [fold_bit (sieve x (ones m)) (fun j hj=>(ones_mem.1 (List.mem_filter.1 hj).1).1) i,wo_bit m x hm]
 have:(i ∈ sieve x (ones m)) ↔ (m.testBit i && !decide ((i:Int)=x))=true:=by
  unfold sieve
  rw [List.mem_filter,ones_mem]
  simp
  exact fun _ h=>bit_lt hm h
 by_cases h:i ∈ sieve x (ones m)
 ·rw [decide_eq_true h,this.1 h]
 ·rw [decide_eq_false h]
  cases hb:(m.testBit i && !decide ((i:Int)=x))
  ·rfl
  ·exact absurd (this.2 hb) h
def asks (o:Int) (s:Nat) (k x:Int):Nat:=if k=1∧o=-1 then 0 else wo (wi s o) x
theorem fold_want (o:Int) (s:Nat) (k x:Int) (hs:s < 4294967296):fold (want o s k x)=asks o s k x:=by
 unfold want asks
 by_cases h:k=1∧o=-1
 ·rw [if_pos h,if_pos h];rfl
 ·rw [if_neg h,if_neg h];exact fold_sieve _ _ (wi_lt s o hs)
theorem asks_lt (o:Int) (s:Nat) (k x:Int) (hs:s < 4294967296):asks o s k x < 4294967296:=by rw [← fold_want o s k x hs];exact fold_lt _
def asked (e:En) (k x:Int):Nat × Int × Int:=if ask e k x then (asks e.o e.s k x,(if k=1 then 4 else 5),0) else (0,0,2)
def told (r:Nat × Int × Int):Ending:= .returned (.tuple #[.int .u32 (r.1:Int),.int .u8 r.2.1,.int .i64 r.2.2])
theorem asked_any (o:Int) (s:Nat) (k x:Int) (w:World) (hs:s < 4294967296) (hT:Tab w):Calls Tryz.prog 75 #[.agg #[.int .i64 o,.int .u32 (s:Int)],.int .u8 k,.int .i64 x] w fun e w'=>e=told (asked ⟨o,s⟩ k x)∧w.grownBy w' none:=by
 refine (callsIn_wide (n:=9)).1 ?_
 have HE0:Hid ((w.alloc (.cells #[.int .i64 o,.int .u32 (s:Int)] 58)).heap[w.heap.size]?=some (.cells #[.int .i64 o,.int .u32 (s:Int)] 58 (0,0))):=qh (heap_alloc_new _ _)
 have HG0:Hid (w.grownBy (w.alloc (.cells #[.int .i64 o,.int .u32 (s:Int)] 58)) none):=qh (grown_alloc (grown_refl _ _) _)
 have HM:Hid (∀ w,_):=qh fun w=>mayAsk_any o s k x w hs
 unfold asked
 cases hask:ask ⟨o,s⟩ k x
 ·rw [hask] at HM
  rw [if_neg (by simp)]
  obtain ⟨c0,c1⟩:=cells2 HE0.out
  clear hask hs hT
  refine callsIn_of_wp_marks Tryz.func75 rfl trivial ?_ rfl
  simp only [Tryz.ntmps75,List.size_toArray,List.length_cons,List.length_nil,Nat.reduceAdd,Nat.reduceSub,Array.replicate_succ,Array.replicate_zero,List.push_toArray,List.append_toArray,List.nil_append,List.cons_append]
  gi_wp2_with (gi_at_call 99;((with_reducible refine (callsIn_wide.2 (HM.out _)).mono ?_);rintro e w5 ⟨rfl,hg5⟩;have HG5:=qh (grown_trans HG0.out hg5);clear hg5))
  exact ⟨_,results_tmp3 rfl _ _ _,rfl,HG5.out⟩
 ·rw [hask] at HM
  rw [if_pos rfl]
  obtain ⟨c0,c1⟩:=cells2 HE0.out
  have HS:=qh hs
  have HTT:=qh hT
  have HF:=qh (fold_want o s k x hs)
  have HMU:Hid (∀ w,_):=qh fun w=>must_any o s k x w
  obtain ⟨q,hq⟩:∃ q:Int,q=if k=1 then 4 else 5:=⟨_,rfl⟩
  show CallsIn _ _ _ _ _ _ (fun e w'=>e=told (asks o s k x,(if k=1 then 4 else 5),0)∧w.grownBy w' none)
  rw [← hq]
  have HQ:=qh hq
  clear hask hs hT hq
  refine callsIn_of_wp_marks Tryz.func75 rfl trivial ?_ rfl
  simp only [Tryz.ntmps75,List.size_toArray,List.length_cons,List.length_nil,Nat.reduceAdd,Nat.reduceSub,Array.replicate_succ,Array.replicate_zero,List.push_toArray,List.append_toArray,List.nil_append,List.cons_append]
  gi_wp2_with (first
   | (gi_at_call 99;((with_reducible refine (callsIn_wide.2 (HM.out _)).mono ?_);rintro e w5 ⟨rfl,hg5⟩;have HG5:=qh (grown_trans HG0.out hg5);obtain ⟨d0,d1⟩:=cells2 (row_grown HE0.out (grown_alloc hg5 (.cells #[.int .u32 0] 56)));clear hg5))
   | (gi_at_call 100;((with_reducible refine (callsIn_wide.2 (HMU.out _)).mono ?_);rintro e w' ⟨rfl,rfl⟩)))
  obtain ⟨W0,hW0⟩:∃ W0,W0=((((w5.alloc (.cells #[.int .u32 0] 56)).alloc (.cells #[.int .i64 o,.int .u32 (s:Int)] 58)).alloc (.cells #[.int .u8 k] 5)).alloc (.cells #[.int .i64 x] 3)):=⟨_,rfl⟩
  have bw:=Boxed.new w5 56 (.int .u32 0)
  have be:=heap_alloc_new (w5.alloc (.cells #[.int .u32 0] 56)) (.cells #[.int .i64 o,.int .u32 (s:Int)] 58)
  have bk:=Boxed.new ((w5.alloc (.cells #[.int .u32 0] 56)).alloc (.cells #[.int .i64 o,.int .u32 (s:Int)] 58)) 5 (.int .u8 k)
  have bx:=Boxed.new (((w5.alloc (.cells #[.int .u32 0] 56)).alloc (.cells #[.int .i64 o,.int .u32 (s:Int)] 58)).alloc (.cells #[.int .u8 k] 5)) 3 (.int .i64 x)
  simp only [World.size_alloc] at be bk bx
  have bw':=((bw.alloc (.cells #[.int .i64 o,.int .u32 (s:Int)] 58)).alloc (.cells #[.int .u8 k] 5)).alloc (.cells #[.int .i64 x] 3)
  have be':=row_grown be (grown_alloc (grown_alloc (grown_refl _ _) (.cells #[.int .u8 k] 5)) (.cells #[.int .i64 x] 3))
  have bk':=bk.alloc (.cells #[.int .i64 x] 3)
  have hgW:w.grownBy W0 none:=by rw [hW0];exact grown_alloc (grown_alloc (grown_alloc (grown_alloc HG5.out _) _) _) _
  have hs0:W0.heap.size=w5.heap.size + 4:=by rw [hW0];simp
  have hs5:=HG5.out.size
  have hT0:Tab W0:=HTT.out.below (below_of hgW) HTT.out.lt
  have hn0:=HTT.out.lt
  rw [← hW0] at bw' be' bk' bx ⊢
  clear hW0 bw be bk d0 d1 c0 c1
  have hHS:=HS.out
  apply rangeR rfl (by omega) (gf:=112) (lb:=#[.pointer (some ⟨w5.heap.size + 1 + 1,0,none⟩),.pointer (some ⟨w5.heap.size + 1,0,none⟩),.pointer (some ⟨w5.heap.size + 1 + 2,0,none⟩)]) rfl trivial (enters_of Tryz.func112 (by kernel_rfl) rfl)
   (Kp:=KpX w.heap.size (w5.heap.size + 1 + 2)) (must_stops 8 (by omega) (w5.heap.size + 1 + 1) (w5.heap.size + 1) (w5.heap.size + 1 + 2) w.heap.size o s k x hHS W0 hn0 (by omega) bk'.cell be' bx hT0) (fun {A B C} h k=>KpX.trans h k) (KpX.put (by omega) (by omega)) (Below.refl _ _) (fun _=>rfl)
   (fun pre X=>Boxed X w5.heap.size 56 (.int .u32 (fold pre:Nat))∧Below w.heap.size w X)
   (fun cc ys X=>False)
   (OwnFrom.and (boxed_from _ _ (fun pre=> .int .u32 (fold pre:Nat))) (ownFrom_below (Nat.le_refl _) (by omega)))
   (fun c' s A B row hs hg hr=>hs)
   ⟨bw',below_of hgW⟩
   (fun j a' X=>a'={ tmps:=#[.agg #[.int .i64 o,.int .u32 (s:Int)],.int .u8 k,.int .i64 x,.pointer (some ⟨w.heap.size,0,none⟩),undef,undef,.int .u32 0,.int .u8 0,.int .i64 0,.pointer (some ⟨w5.heap.size,0,none⟩),.int .i64 (j:Int),.agg #[.int .i64 o,.int .u32 (s:Int)],.int .u8 k,.int .i64 x,.bool true,.bool false,.agg #[.int .i64 o,.int .u32 (s:Int)],.int .u8 k,.int .i64 x,
    .func (.func 112) #[] #[.pointer (some ⟨w5.heap.size + 1 + 1,0,none⟩),.pointer (some ⟨w5.heap.size + 1,0,none⟩),.pointer (some ⟨w5.heap.size + 1 + 2,0,none⟩)],.int .i64 (j:Int),undef,undef,undef,undef,undef,undef,undef],defers:=[] })
  case hAx=>
   rintro x a' s A B row h hg hr
   exact h
  case hassign=>
   rintro l' pre j X K hI hsz hK
   have HK:=qh hK
   have HI:=qh hI
   clear hK hI
   unfold encI
   gi_wp2
   exact HK.out _ _ ⟨KeepsFrom.refl _ _,Holds.refl _ _ _⟩ (KpX.refl _) HI.out rfl
  case hbody=>
   rintro l' pre j a' X hl' ⟨hb,hbl⟩ rfl hsz hlt
   have hc:=hb.cell
   have hf:=hb.frozen
   have HB:=qh hb
   have HBL:=qh hbl
   have HSZ:=qh hsz
   have HSN:=qh (fold_snoc pre j)
   have HW:Hid (∀ n,CallsIn (Fence.wide.inRound l') n Tryz.prog 101 _ X _):=qh fun n=>CallsIn.inRound l' (callsIn_wide.2 (with_any (fold pre) (j:Int) X (fold_lt pre)))
   have HS5:=qh hs5
   have HS0:=qh hs0
   clear hb hbl hlt hl' hsz hs5 hs0 bw' be' bk' bx hT0 hgW
   generalize fold pre=m at hc HSN HW HB
   gi_wp2_with (gi_at_call 101;((with_reducible refine (HW.out _).mono ?_);rintro e X2 ⟨rfl,rfl⟩))
   have hsz:=HSZ.out
   have hs5:=HS5.out
   have hs0:=HS0.out
   exact ⟨⟨(KeepsOthers.setCell _ _ _).from _,Holds.of_grown (grownBy_setCell' _ _ _) (fun r e=>by cases e;omega) (by omega)⟩,⟨(Below.refl _ _).setCell (p:=⟨w5.heap.size,0,none⟩) (by simp;omega) _,Below.heap_setCell _ _ _ _ (show w5.heap.size + 1 + 2 ≠ w5.heap.size by omega)⟩,by rw [HSN.out];exact HB.out.set _,HBL.out.setCell (p:=⟨w5.heap.size,0,none⟩) (by simp;omega) _⟩
  case hdone=>
   rintro D ys X hD rfl ⟨hb,hbl⟩ hK
   have hc:=hb.cell
   rw [HF.out] at hc
   have hbb:=hbl.trans (belowK_b (w:=w) (Nat.le_refl _) X D (.deferred (some [])) (.deferred none) (by omega) hK rfl rfl)
   have HBB:Hid (w.grownBy (X.putObj D (.deferred none)) none):=qh ⟨hbb.os,hbb.tape,hbb.output,hbb.size,fun k hk _=>hbb.block k hk⟩
   have HKK:=qh hK
   obtain ⟨m,hm⟩:∃ m,m=asks o s k x:=⟨_,rfl⟩
   rw [← hm] at hc
   have HM2:=qh hm
   clear hb hbl hbb hK hD hs5 hs0 bw' be' bk' bx hT0 hgW hm
   by_cases hk:k=1
   ·subst hk
    gi_wp2
    refine ⟨by simp,.inl ⟨_,_,rfl,run_takeDeferred HKK.out,?_⟩⟩
    exact ⟨_,results_tmp3 rfl _ _ _,by rw [HQ.out,← HM2.out];rfl,HBB.out⟩
   ·have ek:(k == 1)=false:=by simpa using hk
    have HQ5:Hid (q=5):=qh (by rw [HQ.out,if_neg hk])
    clear hk
    gi_wp2
    refine ⟨by simp,.inl ⟨_,_,rfl,run_takeDeferred HKK.out,?_⟩⟩
    exact ⟨_,results_tmp3 rfl _ _ _,by rw [HQ5.out,← HM2.out];rfl,HBB.out⟩
  case hstop=>
   rintro D c' pre X hD hpre hF hK
   exact hF.elim
end Go.Proofs.YtenhdijbcdkfbaaGreatDoor.en
namespace Go.Proofs.YtenhdijbcdkfbaaGreatDoor.en
set_option linter.unusedVariables false
set_option linter.unusedSimpArgs false
set_option maxRecDepth 1000000
set_option maxHeartbeats 16000000
open Go Go.ChangeShapes Go.WideShapes Go.ChangeAt Go.RowKit
open Go.Proofs.YtenhdijbcdkfbaaGreatDoor.mm (wi wo pop wi_lt wo_lt wi_in wi_out wo_in wo_out in_or ones Tab rwith_any rwout_any rhas_in)
theorem ask_parts {e:En} {k x:Int} (h:ask e k x=true):e.may=true∧(0 ≤ x∧x ≤ 15)∧(k=1 ∨ k=2):=by
 unfold ask at h
 simp only [Bool.and_eq_true,decide_eq_true_eq] at h
 exact ⟨h.1.1,h.1.2,h.2⟩
theorem may_parts {o:Int} {s:Nat} (h:En.may ⟨o,s⟩=true):-1 ≤ o∧o ≤ 15∧s < 65536∧(o ≠ -1→s=0):=of_decide_eq_true h
def pb (o:Int) (s:Nat) (k x:Int) (i:Nat):Bool:=decide ((i:Int) ≠ x) && (decide (o=(i:Int)) || (decide (k=2) && s.testBit i))
theorem wi_bit (m:Nat) (o:Int) (h:o < 32) (i:Nat):(wi m o).testBit i=(m.testBit i || decide (o=(i:Int))):=by
 rcases in_or o with ⟨k,hk,rfl⟩ | h'
 ·rw [wi_in m k hk,Nat.testBit_or,Nat.testBit_two_pow]
  congr 1
  rw [decide_eq_decide];omega
 ·rw [wi_out m o h',decide_eq_false (by omega),Bool.or_false]
theorem bits_no {o:Int} {s:Nat} {k x:Int} {q j:Nat} (h:∀ i,q.testBit i=(decide (i < j) && pb o s k x i)) (hp:pb o s k x j=false) (i:Nat):q.testBit i=(decide (i < j + 1) && pb o s k x i):=by
 rw [h i]
 by_cases e:i=j
 ·subst e;simp [hp]
 ·congr 1;rw [decide_eq_decide];omega
theorem bits_yes {o:Int} {s:Nat} {k x:Int} {q j:Nat} (hj:j < 32) (h:∀ i,q.testBit i=(decide (i < j) && pb o s k x i)) (hp:pb o s k x j=true) (i:Nat):(wi q (j:Int)).testBit i=(decide (i < j + 1) && pb o s k x i):=by
 rw [wi_bit q j (by omega),h i]
 by_cases e:i=j
 ·subst e;simp [hp]
 ·have e':decide ((j:Int)=(i:Int))=false:=decide_eq_false (by omega)
  rw [e',Bool.or_false]
  congr 1;rw [decide_eq_decide];omega
theorem asks_bits (o:Int) (s:Nat) (k x:Int) (m:Nat) (hm:En.may ⟨o,s⟩=true) (hk:k=1 ∨ k=2) (h:∀ i,m.testBit i=(decide (i < 16) && pb o s k x i)):m=asks o s k x:=by
 obtain ⟨h1,h2,h3,h4⟩:=may_parts hm
 have s16:∀ i,¬ i < 16→s.testBit i=false:=fun i hi=>Nat.testBit_lt_two_pow (Nat.lt_of_lt_of_le h3 (by show 2 ^ 16 ≤ 2 ^ i;exact Nat.pow_le_pow_right (by decide) (by omega)))
 apply Nat.eq_of_testBit_eq
 intro i
 rw [h i]
 unfold asks pb
 split
 ·rename_i hc
  obtain ⟨rfl,rfl⟩:=hc
  have e1:decide ((-1:Int)=(i:Int))=false:=decide_eq_false (by omega)
  rw [e1]
  simp
 ·rename_i hc
  rw [wo_bit _ x (wi_lt s o (by omega)),wi_bit s o (by omega)]
  by_cases ho:o=-1
  ·subst ho
   have e1:decide ((-1:Int)=(i:Int))=false:=decide_eq_false (by omega)
   have hk2:k=2:=by omega
   subst hk2
   rw [e1]
   by_cases hi:i < 16
   ·by_cases hx:(i:Int)=x <;> simp [hi,hx]
   ·simp [hi,s16 i hi]
  ·obtain rfl:s=0:=h4 ho
   by_cases hi:i < 16
   ·by_cases hx:(i:Int)=x <;> simp [hi,hx]
   ·have e1:decide (o=(i:Int))=false:=decide_eq_false (by omega)
    simp [hi,e1]
theorem rasked_1 (o:Int) (s:Nat) (x:Int) (w:World) (hs:s < 4294967296) (hask:ask ⟨o,s⟩ 1 x=true):Calls Tryz.prog 79 #[.agg #[.int .i64 o,.int .u32 (s:Int)],.int .u8 1,.int .i64 x] w fun e w'=>e=told (asks o s 1 x,4,0)∧w.grownBy w' none:=by
 have HE0:Hid ((w.alloc (.cells #[.int .i64 o,.int .u32 (s:Int)] 58)).heap[w.heap.size]?=some (.cells #[.int .i64 o,.int .u32 (s:Int)] 58 (0,0))):=qh (heap_alloc_new _ _)
 have HG0:Hid (w.grownBy (w.alloc (.cells #[.int .i64 o,.int .u32 (s:Int)] 58)) none):=qh (grown_alloc (grown_refl _ _) _)
 have HM:Hid (∀ w,_):=qh fun w=>rask_any o s 1 x w hs
 have HF:=qh (fun m h=>asks_bits o s 1 x m (ask_parts hask).1 (.inl rfl) h)
 rw [hask] at HM
 have HS:=qh hs
 clear hask hs
 go_enter Tryz.func79,Tryz.ntmps79
 go_wp2_with (first
  | ((with_reducible refine load_en _ _ _ _ _ w.heap.size ?_ HE0.out ?_);(rfl))
  | (go_at_call 106;((with_reducible refine (HM.out _).mono ?_);rintro e w5 ⟨rfl,hg5⟩;have HG5:=qh (grown_trans HG0.out hg5);obtain ⟨c0,c1⟩:=cells2 (row_grown HE0.out hg5);clear hg5)))
 go_loop [10,11] (fun m i=>∃ j:Nat,j ≤ 16∧i = .int .i64 (j:Int)∧∃ q:Nat,q < 4294967296∧(∀ i,q.testBit i=(decide (i < j) && pb o s 1 x i))∧m = .int .u32 (q:Int)) (fun _ i=>16 - (intOf i).toNat)
 case atStart=>exact ⟨0,by omega,rfl,0,by decide,fun i=>by simp,rfl⟩
 case round=>
  obtain ⟨j,hj,rfl,q,hq,hb,rfl⟩:=hrel
  have HB:=qh hb
  clear hb
  by_cases hlt:j < 16
  ·have HW:=qh (rwith_any q (j:Int) w5 hq)
   have HQ:=qh (wi_lt q (j:Int) hq)
   by_cases h1:(j:Int)=x
   ·have e1:((j:Int) != x)=false:=by simpa using h1
    have HP:Hid (pb o s 1 x j=false):=qh (by simp [pb,h1])
    clear h1
    go_wp2_with fail
    go_round
    case rel=>exact ⟨j + 1,by omega,by go_num,q,hq,bits_no HB.out HP.out,rfl⟩
    case measure=>simp [intOf];omega
   ·have e1:((j:Int) != x)=true:=by simpa using h1
    by_cases h2:o=(j:Int)
    ·have e2:(o == (j:Int))=true:=by simpa using h2
     have HP:Hid (pb o s 1 x j=true):=qh (by simp [pb,h1,h2])
     clear h1 h2
     go_wp2_with (go_at_call 107;((with_reducible refine HW.out.mono ?_);rintro e w' ⟨rfl,rfl⟩))
     go_round
     case rel=>exact ⟨j + 1,by omega,by go_num,wi q (j:Int),HQ.out,bits_yes (by omega) HB.out HP.out,rfl⟩
     case measure=>simp [intOf];omega
    ·have e2:(o == (j:Int))=false:=by simpa using h2
     have HP:Hid (pb o s 1 x j=false):=qh (by simp [pb,h2])
     clear h1 h2
     go_wp2_with fail
     go_round
     case rel=>exact ⟨j + 1,by omega,by go_num,q,hq,bits_no HB.out HP.out,rfl⟩
     case measure=>simp [intOf];omega
  ·obtain rfl:j=16:=by omega
   go_wp2_with fail
   go_ret3
   exact ⟨by rw [HF.out q HB.out];rfl,HG5.out⟩
theorem rasked_2 (o:Int) (s:Nat) (x:Int) (w:World) (hs:s < 4294967296) (hask:ask ⟨o,s⟩ 2 x=true):Calls Tryz.prog 79 #[.agg #[.int .i64 o,.int .u32 (s:Int)],.int .u8 2,.int .i64 x] w fun e w'=>e=told (asks o s 2 x,5,0)∧w.grownBy w' none:=by
 have HE0:Hid ((w.alloc (.cells #[.int .i64 o,.int .u32 (s:Int)] 58)).heap[w.heap.size]?=some (.cells #[.int .i64 o,.int .u32 (s:Int)] 58 (0,0))):=qh (heap_alloc_new _ _)
 have HG0:Hid (w.grownBy (w.alloc (.cells #[.int .i64 o,.int .u32 (s:Int)] 58)) none):=qh (grown_alloc (grown_refl _ _) _)
 have HM:Hid (∀ w,_):=qh fun w=>rask_any o s 2 x w hs
 have HF:=qh (fun m h=>asks_bits o s 2 x m (ask_parts hask).1 (.inr rfl) h)
 rw [hask] at HM
 have HS:=qh hs
 clear hask hs
 go_enter Tryz.func79,Tryz.ntmps79
 go_wp2_with (first
  | ((with_reducible refine load_en _ _ _ _ _ w.heap.size ?_ HE0.out ?_);(rfl))
  | (go_at_call 106;((with_reducible refine (HM.out _).mono ?_);rintro e w5 ⟨rfl,hg5⟩;have HG5:=qh (grown_trans HG0.out hg5);obtain ⟨c0,c1⟩:=cells2 (row_grown HE0.out hg5);clear hg5)))
 go_loop [10,11] (fun m i=>∃ j:Nat,j ≤ 16∧i = .int .i64 (j:Int)∧∃ q:Nat,q < 4294967296∧(∀ i,q.testBit i=(decide (i < j) && pb o s 2 x i))∧m = .int .u32 (q:Int)) (fun _ i=>16 - (intOf i).toNat)
 case atStart=>exact ⟨0,by omega,rfl,0,by decide,fun i=>by simp,rfl⟩
 case round=>
  obtain ⟨j,hj,rfl,q,hq,hb,rfl⟩:=hrel
  have HB:=qh hb
  clear hb
  by_cases hlt:j < 16
  ·have HW:=qh (rwith_any q (j:Int) w5 hq)
   have HQ:=qh (wi_lt q (j:Int) hq)
   by_cases h1:(j:Int)=x
   ·have e1:((j:Int) != x)=false:=by simpa using h1
    have HP:Hid (pb o s 2 x j=false):=qh (by simp [pb,h1])
    clear h1
    go_wp2_with fail
    go_round
    case rel=>exact ⟨j + 1,by omega,by go_num,q,hq,bits_no HB.out HP.out,rfl⟩
    case measure=>simp [intOf];omega
   ·have e1:((j:Int) != x)=true:=by simpa using h1
    by_cases h2:o=(j:Int)
    ·have e2:(o == (j:Int))=true:=by simpa using h2
     have HP:Hid (pb o s 2 x j=true):=qh (by simp [pb,h1,h2])
     clear h1 h2
     go_wp2_with (go_at_call 107;((with_reducible refine HW.out.mono ?_);rintro e w' ⟨rfl,rfl⟩))
     go_round
     case rel=>exact ⟨j + 1,by omega,by go_num,wi q (j:Int),HQ.out,bits_yes (by omega) HB.out HP.out,rfl⟩
     case measure=>simp [intOf];omega
    ·have e2:(o == (j:Int))=false:=by simpa using h2
     have hh:=rhas_in s j w5 HS.out (by omega)
     cases ht:s.testBit j
     ·have HP:Hid (pb o s 2 x j=false):=qh (by simp [pb,h2,ht])
      rw [ht] at hh
      have HH:=qh hh
      clear h1 h2 ht hh
      go_wp2_with (go_at_call 39;((with_reducible refine HH.out.mono ?_);rintro e w' ⟨rfl,rfl⟩))
      go_round
      case rel=>exact ⟨j + 1,by omega,by go_num,q,hq,bits_no HB.out HP.out,rfl⟩
      case measure=>simp [intOf];omega
     ·have HP:Hid (pb o s 2 x j=true):=qh (by simp [pb,h1,h2,ht])
      rw [ht] at hh
      have HH:=qh hh
      clear h1 h2 ht hh
      go_wp2_with (first
       | (go_at_call 39;((with_reducible refine HH.out.mono ?_);rintro e w' ⟨rfl,rfl⟩))
       | (go_at_call 107;((with_reducible refine HW.out.mono ?_);rintro e w' ⟨rfl,rfl⟩)))
      go_round
      case rel=>exact ⟨j + 1,by omega,by go_num,wi q (j:Int),HQ.out,bits_yes (by omega) HB.out HP.out,rfl⟩
      case measure=>simp [intOf];omega
  ·obtain rfl:j=16:=by omega
   go_wp2_with fail
   go_ret3
   exact ⟨by rw [HF.out q HB.out];rfl,HG5.out⟩
theorem rasked_any (o:Int) (s:Nat) (k x:Int) (w:World) (hs:s < 4294967296):Calls Tryz.prog 79 #[.agg #[.int .i64 o,.int .u32 (s:Int)],.int .u8 k,.int .i64 x] w fun e w'=>e=told (asked ⟨o,s⟩ k x)∧w.grownBy w' none:=by
 unfold asked
 cases hask:ask ⟨o,s⟩ k x
 ·rw [if_neg (by simp)]
  have HE0:Hid ((w.alloc (.cells #[.int .i64 o,.int .u32 (s:Int)] 58)).heap[w.heap.size]?=some (.cells #[.int .i64 o,.int .u32 (s:Int)] 58 (0,0))):=qh (heap_alloc_new _ _)
  have HG0:Hid (w.grownBy (w.alloc (.cells #[.int .i64 o,.int .u32 (s:Int)] 58)) none):=qh (grown_alloc (grown_refl _ _) _)
  have HM:Hid (∀ w,_):=qh fun w=>rask_any o s k x w hs
  rw [hask] at HM
  clear hask hs
  go_enter Tryz.func79,Tryz.ntmps79
  go_wp2_with (first
   | ((with_reducible refine load_en _ _ _ _ _ w.heap.size ?_ HE0.out ?_);(rfl))
   | (go_at_call 106;((with_reducible refine (HM.out _).mono ?_);rintro e w5 ⟨rfl,hg5⟩;have HG5:=qh (grown_trans HG0.out hg5);clear hg5)))
  go_ret3
  exact ⟨rfl,HG5.out⟩
 ·rw [if_pos rfl]
  rcases (ask_parts hask).2.2 with rfl | rfl
  ·exact rasked_1 o s x w hs hask
  ·exact rasked_2 o s x w hs hask
end Go.Proofs.YtenhdijbcdkfbaaGreatDoor.en
namespace Go.Proofs.YtenhdijbcdkfbaaGreatDoor.en
set_option linter.unusedVariables false
set_option linter.unusedSimpArgs false
set_option maxRecDepth 1000000
set_option maxHeartbeats 16000000
open Go Go.ChangeShapes Go.WideShapes Go.ChangeAt Go.RowKit
open Go.Proofs.YtenhdijbcdkfbaaGreatDoor.mm (wi wo pop wi_lt wo_lt wi_in wi_out wo_in wo_out in_or ones Tab rwith_any rwout_any rhas_in)
theorem pop_step (A B x:Nat) (h:∀ i,A.testBit i=(B.testBit i || decide (i=x))) (hx:B.testBit x=false):∀ n,pop A n=pop B n + if x < n then 1 else 0
 | 0=>rfl
 | n + 1=>by
  show pop A n + _=pop B n + _ + _
  rw [pop_step A B x h hx n,h n]
  by_cases e:n=x
  ·subst e;simp [hx]
  ·by_cases hl:x < n
   ·simp [e,hl,show x < n + 1 by omega];omega
   ·simp [e,hl,show ¬ x < n + 1 by omega]
theorem pop_zero (m:Nat):∀ n,pop m n=0→∀ i,i < n→m.testBit i=false
 | 0,_,i,hi=>by omega
 | n + 1,h,i,hi=>by
  have h':pop m n + (m.testBit n).toNat=0:=h
  by_cases e:i=n
  ·subst e
   cases hb:m.testBit i
   ·rfl
   ·rw [hb] at h';simp at h'
  ·exact pop_zero m n (by omega) i (by omega)
theorem pop_of_zero:∀ n,pop 0 n=0
 | 0=>rfl
 | n + 1=>by
  show pop 0 n + _=0
  rw [pop_of_zero n];simp
theorem only_one (m:Nat) (x:Int) (hm:m < 4294967296) (h0:0 ≤ x) (h1:x < 32):pop (wi m x) 32=1 ↔ wo m x=0:=by
 obtain ⟨k,rfl⟩:∃ k:Nat,x=(k:Int):=⟨x.toNat,by omega⟩
 have hs:=pop_step (wi m k) (wo m k) k (fun i=>by
  rw [wi_bit m k (by omega),wo_bit m k hm]
  by_cases e:(i:Int)=(k:Int)
  ·have e':i=k:=by omega
   subst e';simp
  ·have e1:decide ((k:Int)=(i:Int))=false:=decide_eq_false (by omega)
   have e2:decide (i=k)=false:=decide_eq_false (by omega)
   have e3:decide ((i:Int)=(k:Int))=false:=decide_eq_false e
   rw [e1,e2,e3];simp) (by rw [wo_bit m k hm];simp) 32
 rw [if_pos (by omega)] at hs
 constructor
 ·intro h
  have hz:=pop_zero (wo m k) 32 (by omega)
  apply Nat.eq_of_testBit_eq
  intro i
  rw [Nat.zero_testBit]
  by_cases hi:i < 32
  ·exact hz i hi
  ·exact Nat.testBit_lt_two_pow (Nat.lt_of_lt_of_le (wo_lt m k hm) (by show 2 ^ 32 ≤ 2 ^ i;exact Nat.pow_le_pow_right (by decide) (by omega)))
 ·intro h
  rw [hs,h,pop_of_zero]
theorem pop_two:∀ a b:Fin 16,a ≠ b→pop ((0 ||| 2 ^ a.val) ||| 2 ^ b.val) 32=2:=by decide +kernel
theorem gets_doc (o:Int) (s:Nat) (k x:Int) (h:ask ⟨o,s⟩ k x=true) :
  gets ⟨o,s⟩ k x=if k=2 then (⟨x,0⟩,3,0) else if 0 ≤ o∧o ≠ x then (⟨-1,wi (wi 0 o) x⟩,1,0) else if wo s x=0 then (⟨x,0⟩,2,0) else (⟨-1,wi s x⟩,1,0):=by
 obtain ⟨hm,hx,hk⟩:=ask_parts h
 obtain ⟨h1,h2,h3,h4⟩:=may_parts hm
 unfold gets
 rw [if_pos h]
 by_cases hk2:k=2
 ·rw [if_pos hk2,if_pos hk2]
 ·rw [if_neg hk2,if_neg hk2]
  by_cases ho:0 ≤ o
  ·obtain rfl:s=0:=h4 (by omega)
   obtain ⟨a,rfl⟩:∃ a:Nat,o=(a:Int):=⟨o.toNat,by omega⟩
   obtain ⟨c,rfl⟩:∃ c:Nat,x=(c:Int):=⟨x.toNat,by omega⟩
   by_cases he:(a:Int)=(c:Int)
   ·rw [if_neg (c:=(0:Int) ≤ (a:Int)∧(a:Int) ≠ (c:Int)) (fun h=>h.2 he)]
    have hac:a=c:=by omega
    subst hac
    have hz:wo 0 (a:Int)=0:=by
     rw [wo_in 0 a (by omega)];simp
    have hw:wi (wi 0 (a:Int)) (a:Int)=wi 0 (a:Int):=by
     rw [wi_in 0 a (by omega),wi_in _ a (by omega)];simp
    show (if pop (wi (wi 0 (a:Int)) (a:Int)) 32=1 then _ else _)=_
    rw [hw,if_pos hz,if_pos ((only_one 0 a (by decide) (by omega) (by omega)).2 hz)]
   ·rw [if_pos (c:=(0:Int) ≤ (a:Int)∧(a:Int) ≠ (c:Int)) ⟨ho,he⟩]
    have hp:=pop_two ⟨a,by omega⟩ ⟨c,by omega⟩ (by simp;omega)
    have hw:wi (wi 0 (a:Int)) (c:Int)=(0 ||| 2 ^ a) ||| 2 ^ c:=by rw [wi_in 0 a (by omega),wi_in _ c (by omega)]
    show (if pop (wi (wi 0 (a:Int)) (c:Int)) 32=1 then _ else _)=_
    rw [if_neg]
    rw [hw]
    have:pop ((0 ||| 2 ^ a) ||| 2 ^ c) 32=2:=hp
    omega
  ·obtain rfl:o=-1:=by omega
   rw [if_neg (c:=(0:Int) ≤ -1∧(-1:Int) ≠ x) (fun h=>ho h.1)]
   show (if pop (wi (wi s (-1)) x) 32=1 then _ else ((⟨-1,wi (wi s (-1)) x⟩,1,0):En × Int × Int))=_
   rw [wi_out s (-1) (by omega)]
   by_cases hz:wo s x=0
   ·rw [if_pos hz,if_pos ((only_one s x (by omega) hx.1 (by omega)).2 hz)]
   ·rw [if_neg hz,if_neg (fun h=>hz ((only_one s x (by omega) hx.1 (by omega)).1 h))]
theorem rgets_any (o:Int) (s:Nat) (k x:Int) (w:World) (hs:s < 4294967296):Calls Tryz.prog 81 #[.agg #[.int .i64 o,.int .u32 (s:Int)],.int .u8 k,.int .i64 x] w fun e w'=>e=got (gets ⟨o,s⟩ k x)∧w.grownBy w' none:=by
 have HA:=qh (put2_old w (.int .i64 o) (.int .u32 (s:Int)) (.int .i64 0) (.int .u32 0) 58)
 have HB:=qh (put2_new w (.int .i64 o) (.int .u32 (s:Int)) (.int .i64 0) (.int .u32 0) 58)
 have HG0:Hid (w.grownBy ((w.alloc (.cells #[.int .i64 o,.int .u32 (s:Int)] 58)).alloc (.cells #[.int .i64 0,.int .u32 0] 58)) none):=qh (grown_alloc (grown_alloc (grown_refl _ _) _) _)
 have HM:Hid (∀ w,_):=qh fun w=>rask_any o s k x w hs
 cases hask:ask ⟨o,s⟩ k x
 ·have hgt:gets ⟨o,s⟩ k x=(⟨0,0⟩,0,2):=by unfold gets;rw [if_neg (by rw [hask];simp)]
  rw [hgt]
  rw [hask] at HM
  clear hask hs hgt
  go_enter Tryz.func81,Tryz.ntmps81
  go_wp2_with (first
   | ((with_reducible refine load_en _ _ _ _ _ w.heap.size ?_ HA.out ?_);(rfl))
   | (go_at_call 106;((with_reducible refine (HM.out _).mono ?_);rintro e w5 ⟨rfl,hg5⟩;have HA5:=qh (row_grown HA.out hg5);obtain ⟨c0,c1⟩:=cells2 HA5.out;have HB5:=qh (row_grown HB.out hg5);have HG5:=qh (grown_trans HG0.out hg5);clear hg5))
   | ((with_reducible refine store_en 0 0 _ _ _ _ (w.heap.size + 1) ?_ ?_ HB5.out ?_ ?_);(rfl);(rfl);(rfl)))
  refine ret3 rfl (by rfl) rfl rfl (setRow_heap _ _ _ _ _ _ HB5.out) ?_
  exact ⟨rfl,grown_setRow HG5.out _ (by omega) _⟩
 ·rw [gets_doc o s k x hask]
  rw [hask] at HM
  clear hask
  by_cases hk:k=2
  ·subst hk
   rw [if_pos rfl]
   clear hs
   go_enter Tryz.func81,Tryz.ntmps81
   go_wp2_with (first
    | ((with_reducible refine load_en _ _ _ _ _ w.heap.size ?_ HA.out ?_);(rfl))
    | (go_at_call 106;((with_reducible refine (HM.out _).mono ?_);rintro e w5 ⟨rfl,hg5⟩;have HA5:=qh (row_grown HA.out hg5);obtain ⟨c0,c1⟩:=cells2 HA5.out;have HB5:=qh (row_grown HB.out hg5);have HG5:=qh (grown_trans HG0.out hg5);clear hg5))
    | ((with_reducible refine store_en x 0 _ _ _ _ (w.heap.size + 1) ?_ ?_ HB5.out ?_ ?_);(rfl);(rfl);(rfl)))
   refine ret3 rfl (by rfl) rfl rfl (setRow_heap _ _ _ _ _ _ HB5.out) ?_
   exact ⟨rfl,grown_setRow HG5.out _ (by omega) _⟩
  ·rw [if_neg hk]
   have ek:(k == 2)=false:=by simpa using hk
   clear hk
   by_cases ho:0 ≤ o∧o ≠ x
   ·rw [if_pos ho]
    have e1:decide (0 ≤ o)=true:=decide_eq_true ho.1
    have e2:(o != x)=true:=by simpa using ho.2
    have HW1:Hid (∀ w,Calls Tryz.prog 107 #[.int .u32 0,.int .i64 o] w fun e w'=>e = .returned (.int .u32 (wi 0 o:Nat))∧w=w'):=qh fun w=>rwith_any 0 o w (by decide)
    have HW2:Hid (∀ w,_):=qh fun w=>rwith_any (wi 0 o) x w (wi_lt 0 o (by decide))
    clear ho hs
    generalize wi (wi 0 o) x=p at HW2 ⊢
    generalize wi 0 o=m at HW1 HW2
    go_enter Tryz.func81,Tryz.ntmps81
    go_wp2_with (first
     | ((with_reducible refine load_en _ _ _ _ _ w.heap.size ?_ HA.out ?_);(rfl))
     | (go_at_call 106;((with_reducible refine (HM.out _).mono ?_);rintro e w5 ⟨rfl,hg5⟩;have HA5:=qh (row_grown HA.out hg5);obtain ⟨c0,c1⟩:=cells2 HA5.out;have HB5:=qh (row_grown HB.out hg5);have HG5:=qh (grown_trans HG0.out hg5);clear hg5))
     | (go_at_call 107;((with_reducible refine (HW1.out _).mono ?_);rintro e w6 ⟨rfl,rfl⟩))
     | (go_at_call 107;((with_reducible refine (HW2.out _).mono ?_);rintro e w6 ⟨rfl,rfl⟩))
     | ((with_reducible refine store_en (-1) (p:Int) _ _ _ _ (w.heap.size + 1) ?_ ?_ HB5.out ?_ ?_);(rfl);(rfl);(rfl)))
    refine ret3 rfl (by rfl) rfl rfl (setRow_heap _ _ _ _ _ _ HB5.out) ?_
    exact ⟨rfl,grown_setRow HG5.out _ (by omega) _⟩
   ·rw [if_neg ho]
    have HWO:Hid (∀ w,_):=qh fun w=>rwout_any s x w hs
    have HW2:Hid (∀ w,_):=qh fun w=>rwith_any s x w hs
    have cases_o:(∃ u,decide (0 ≤ o)=u∧(u=true→(o != x)=false)):=⟨_,rfl,fun h=>by
     have:=of_decide_eq_true h
     have:o=x:=by
      by_cases e:o=x
      ·exact e
      ·exact absurd ⟨by assumption,e⟩ ho
     simp [this]⟩
    obtain ⟨u,e1,e2⟩:=cases_o
    clear ho hs
    generalize wi s x=p at HW2 ⊢
    by_cases hz:wo s x=0
    ·rw [if_pos hz]
     rw [hz] at HWO
     clear hz HW2
     cases u
     ·clear e2
      go_enter Tryz.func81,Tryz.ntmps81
      go_wp2_with (first
       | ((with_reducible refine load_en _ _ _ _ _ w.heap.size ?_ HA.out ?_);(rfl))
       | (go_at_call 106;((with_reducible refine (HM.out _).mono ?_);rintro e w5 ⟨rfl,hg5⟩;have HA5:=qh (row_grown HA.out hg5);obtain ⟨c0,c1⟩:=cells2 HA5.out;have HB5:=qh (row_grown HB.out hg5);have HG5:=qh (grown_trans HG0.out hg5);clear hg5))
       | (go_at_call 51;((with_reducible refine (HWO.out _).mono ?_);rintro e w6 ⟨rfl,rfl⟩))
       | ((with_reducible refine store_en x 0 _ _ _ _ (w.heap.size + 1) ?_ ?_ HB5.out ?_ ?_);(rfl);(rfl);(rfl)))
      refine ret3 rfl (by rfl) rfl rfl (setRow_heap _ _ _ _ _ _ HB5.out) ?_
      exact ⟨rfl,grown_setRow HG5.out _ (by omega) _⟩
     ·have e3:=e2 rfl
      clear e2
      go_enter Tryz.func81,Tryz.ntmps81
      go_wp2_with (first
       | ((with_reducible refine load_en _ _ _ _ _ w.heap.size ?_ HA.out ?_);(rfl))
       | (go_at_call 106;((with_reducible refine (HM.out _).mono ?_);rintro e w5 ⟨rfl,hg5⟩;have HA5:=qh (row_grown HA.out hg5);obtain ⟨c0,c1⟩:=cells2 HA5.out;have HB5:=qh (row_grown HB.out hg5);have HG5:=qh (grown_trans HG0.out hg5);clear hg5))
       | (go_at_call 51;((with_reducible refine (HWO.out _).mono ?_);rintro e w6 ⟨rfl,rfl⟩))
       | ((with_reducible refine store_en x 0 _ _ _ _ (w.heap.size + 1) ?_ ?_ HB5.out ?_ ?_);(rfl);(rfl);(rfl)))
      refine ret3 rfl (by rfl) rfl rfl (setRow_heap _ _ _ _ _ _ HB5.out) ?_
      exact ⟨rfl,grown_setRow HG5.out _ (by omega) _⟩
    ·rw [if_neg hz]
     have ez:(((wo s x:Nat):Int) == 0)=false:=by simp;omega
     clear hz
     generalize wo s x=m at HWO ez
     cases u
     ·clear e2
      go_enter Tryz.func81,Tryz.ntmps81
      go_wp2_with (first
       | ((with_reducible refine load_en _ _ _ _ _ w.heap.size ?_ HA.out ?_);(rfl))
       | (go_at_call 106;((with_reducible refine (HM.out _).mono ?_);rintro e w5 ⟨rfl,hg5⟩;have HA5:=qh (row_grown HA.out hg5);obtain ⟨c0,c1⟩:=cells2 HA5.out;have HB5:=qh (row_grown HB.out hg5);have HG5:=qh (grown_trans HG0.out hg5);clear hg5))
       | (go_at_call 51;((with_reducible refine (HWO.out _).mono ?_);rintro e w6 ⟨rfl,rfl⟩))
       | (go_at_call 107;((with_reducible refine (HW2.out _).mono ?_);rintro e w6 ⟨rfl,rfl⟩))
       | ((with_reducible refine store_en (-1) (p:Int) _ _ _ _ (w.heap.size + 1) ?_ ?_ HB5.out ?_ ?_);(rfl);(rfl);(rfl)))
      refine ret3 rfl (by rfl) rfl rfl (setRow_heap _ _ _ _ _ _ HB5.out) ?_
      exact ⟨rfl,grown_setRow HG5.out _ (by omega) _⟩
     ·have e3:=e2 rfl
      clear e2
      go_enter Tryz.func81,Tryz.ntmps81
      go_wp2_with (first
       | ((with_reducible refine load_en _ _ _ _ _ w.heap.size ?_ HA.out ?_);(rfl))
       | (go_at_call 106;((with_reducible refine (HM.out _).mono ?_);rintro e w5 ⟨rfl,hg5⟩;have HA5:=qh (row_grown HA.out hg5);obtain ⟨c0,c1⟩:=cells2 HA5.out;have HB5:=qh (row_grown HB.out hg5);have HG5:=qh (grown_trans HG0.out hg5);clear hg5))
       | (go_at_call 51;((with_reducible refine (HWO.out _).mono ?_);rintro e w6 ⟨rfl,rfl⟩))
       | (go_at_call 107;((with_reducible refine (HW2.out _).mono ?_);rintro e w6 ⟨rfl,rfl⟩))
       | ((with_reducible refine store_en (-1) (p:Int) _ _ _ _ (w.heap.size + 1) ?_ ?_ HB5.out ?_ ?_);(rfl);(rfl);(rfl)))
      refine ret3 rfl (by rfl) rfl rfl (setRow_heap _ _ _ _ _ _ HB5.out) ?_
      exact ⟨rfl,grown_setRow HG5.out _ (by omega) _⟩
end Go.Proofs.YtenhdijbcdkfbaaGreatDoor.en
namespace Go.Proofs.YtenhdijbcdkfbaaGreatDoor.en
set_option linter.unusedVariables false
set_option linter.unusedSimpArgs false
set_option maxRecDepth 1000000
set_option maxHeartbeats 16000000
open Go
open Go.Proofs.YtenhdijbcdkfbaaGreatDoor.mm (wi wo ha pop wi_lt wo_lt wi_in wi_out wo_in wo_out ha_in in_or)
theorem wi_16 (m:Nat) (n:Int) (hm:m < 65536) (h:n ≤ 15):wi m n < 65536:=by
 unfold wi
 split
 ·have:2 ^ n.toNat ≤ 2 ^ 15:=Nat.pow_le_pow_right (by decide) (by omega)
  exact Nat.or_lt_two_pow (n:=16) hm (by omega)
 ·exact hm
theorem ha_wi (m:Nat) (x:Int) (h0:0 ≤ x) (h1:x < 32):ha (wi m x) x=true:=by
 obtain ⟨k,rfl⟩:∃ k:Nat,x=(k:Int):=⟨x.toNat,by omega⟩
 rw [ha_in _ k (by omega),wi_bit m k (by omega)];simp
theorem pop_has (m:Nat) (x:Int) (h0:0 ≤ x) (h1:x < 32) (h:ha m x=true):0 < pop m 32:=by
 obtain ⟨k,rfl⟩:∃ k:Nat,x=(k:Int):=⟨x.toNat,by omega⟩
 rw [ha_in _ k (by omega)] at h
 by_cases hp:pop m 32=0
 ·have:=pop_zero m 32 hp k (by omega)
  rw [this] at h;cases h
 ·omega
theorem gets_three (o:Int) (s:Nat) (k x:Int) (h:ask ⟨o,s⟩ k x=true) :
  (∃ t,gets ⟨o,s⟩ k x=(⟨x,0⟩,t,0)∧((t == 1)=false)∧(((t == 2)=true) ∨ ((t == 2)=false∧(t == 3)=true))) ∨ (∃ m,gets ⟨o,s⟩ k x=(⟨-1,m⟩,1,0)∧m < 65536∧ha m x=true∧1 < pop m 32):=by
 obtain ⟨hm,hx,hk⟩:=ask_parts h
 obtain ⟨h1,h2,h3,h4⟩:=may_parts hm
 unfold gets
 rw [if_pos h]
 split
 ·exact .inl ⟨3,rfl,by decide,.inr ⟨by decide,by decide⟩⟩
 ·split
  ·exact .inl ⟨2,rfl,by decide,.inl (by decide)⟩
  ·rename_i hp
   have hh:=ha_wi (wi s o) x hx.1 (by omega)
   have:=pop_has _ x hx.1 (by omega) hh
   exact .inr ⟨_,rfl,wi_16 _ _ (wi_16 _ _ h3 h2) hx.2,hh,by
    show 1 < pop (wi (wi s o) x) 32
    have hp':¬ pop (wi (wi s o) x) 32=1:=hp
    omega⟩
end Go.Proofs.YtenhdijbcdkfbaaGreatDoor.en
