/-
 slices.Equal of two slices of the same notes says yes: a contract. No condition but what the theorem names.
 A row of notes that a loop's rounds append to, its variable boxed; a slice of notes made with room and none in it: laws. No condition but what each theorem names.
 Who goes over a pool of notes is told places and notes: the contract over the pool's places. No condition but the bounds that each theorem names.
-/
import Derived.Test.YtenhdijbcdkfbaaGreatDoorTl
import Derived.Test.YtenhdijbcdkfbaaGreatDoorPk
import Derived.RangeFuncNested
import Derived.Laws.MakeOwn
namespace Go.Proofs.YtenhdijbcdkfbaaGreatDoor.tt
set_option linter.unusedVariables false
set_option linter.unusedSimpArgs false
set_option maxRecDepth 1000000
set_option maxHeartbeats 16000000
open Go Go.ChangeShapes Go.WideShapes Go.ChangeAt Go.RowKit Go.Shelf
theorem namedO:∃ (t:TypeId) (m:Nat),Hid (Op.load 45=Op.load t)∧(∀ w,(isAgg t).run Tryz.prog w = .ok true w)∧(∀ w,(sizeOf t).run Tryz.prog w = .ok m w) ∧
  ∀ (g o:Nat) (n:Nt) (w:World),w.rangeAt g o (nt n)→(loadCellsFrom ⟨g,o,none⟩ 0 m #[]).run Tryz.prog w = .ok (na n) w:=
 ⟨45,24,qh rfl,Tryz.isAgg45,Tryz.sizeOf45,fun g o n w h=>by
  have:=run_loadCells_list (P:=Tryz.prog) w ⟨g,o,none⟩ (nt n) (fun j v hv=>by rw [add_lit];exact h j v hv)
  simpa [loadCells,nt_len,na] using this⟩
theorem equal_yes (v1 v2:Value) (ns:List Nt) (w:World) (h1:NSl w v1 ns) (h2:NSl w v2 ns) (hl:ns.length ≤ 65536) :
  Calls Tryz.prog 15 #[v1,v2] w fun e w'=>e = .returned (.bool true)∧w.grownBy w' none:=by
 obtain ⟨ad1,cap1,rfl⟩:=h1.form
 obtain ⟨ad2,cap2,rfl⟩:=h2.form
 obtain ⟨q,hq⟩:∃ q,q=ns.length:=⟨_,rfl⟩
 have HQ:=qh hq
 rw [← hq] at h1 h2 hl ⊢
 have H1:=qh h1
 have H2:=qh h2
 have HLL:=qh hl
 clear h1 h2 hq hl
 go_enter Tryz.func15,Tryz.ntmps15
 go_wp2_with fail
 go_loopw [13] (fun i wr=>∃ j:Nat,j ≤ q∧i = .int .i64 (j:Int)∧w.grownBy wr none) (fun i _=>q - (intOf i).toNat)
 case atStart=>exact ⟨0,Nat.zero_le _,rfl,grown_refl _ _⟩
 case round=>
  obtain ⟨j,hj,rfl,hg⟩:=hrel
  have HG:=qh hg
  clear hg
  by_cases hlt:j < q
  ·obtain ⟨x,hx⟩:∃ x,ns[j]?=some x:=⟨_,List.getElem?_eq_getElem (by have:=HQ.out;omega)⟩
   obtain ⟨g1,o1,rfl,_,hr1⟩:=nsl_at (by have:=H1.out.grown HG.out;rw [HQ.out] at this;exact this) j x hx
   obtain ⟨g2,o2,rfl,_,hr2⟩:=nsl_at (by have:=H2.out.grown HG.out;rw [HQ.out] at this;exact this) j x hx
   obtain ⟨t',mm,HTT,hagg,hsize,hld⟩:=namedO
   have hl1:∀ n,(loadCellsFrom ⟨g1,o1 + j * 24,none⟩ 0 mm #[]).run Tryz.prog (wr.drewN n) = .ok (na x) (wr.drewN n):=fun n=>hld g1 (o1 + j * 24) x _ (range_grown hr1 (grown_drewN (grown_refl _ none) n) (by simp))
   have hl2:∀ n,(loadCellsFrom ⟨g2,o2 + j * 24,none⟩ 0 mm #[]).run Tryz.prog (wr.drewN n) = .ok (na x) (wr.drewN n):=fun n=>hld g2 (o2 + j * 24) x _ (range_grown hr2 (grown_drewN (grown_refl _ none) n) (by simp))
   have hq:∀ w,(binOp .neq 45 (.agg (na x)) (.agg (na x))).run Tryz.prog w = .ok (.bool false) w:=fun w=>by rw [q31n,decide_eq_true rfl];rfl
   have hll:=HLL.out
   clear hr1 hr2 hld hx
   go_wp2_with fail
   rw [HTT.out]
   go_quiet (fail)
   go_wp2_with fail
   go_roundw
   case rel=>exact ⟨j + 1,by omega,by go_num,grown_trans HG.out (grown_drewN (grown_refl _ _) _)⟩
   case measure=>simp [intOf];omega
  ·go_wp2_with fail
   go_ret
   exact ⟨rfl,HG.out⟩
end Go.Proofs.YtenhdijbcdkfbaaGreatDoor.tt
namespace Go.Proofs.YtenhdijbcdkfbaaGreatDoor.tt
set_option linter.unusedVariables false
set_option linter.unusedSimpArgs false
set_option maxRecDepth 1000000
set_option maxHeartbeats 16000000
open Go Go.ChangeShapes Go.WideShapes Go.ChangeAt Go.RowKit Go.Shelf
attribute [local go_sem] Oper.semAt_some
theorem Sl.own2 {W W':World} {row:Option Nat} {e:TypeId} {s n:Nat} {v:Value} {xs:List Value} (h:Sl W e s v n xs) (hg:W.grownBy W' row) (hr:∀ r,row=some r→∃ o:Obj,W.heap[r]?=some o∧o.isCells=false):Sl W' e s v n xs:=
 h.of_block fun g hv=>hg.block g (h.lt g hv) fun e'=>by
  obtain ⟨o,ho,hc⟩:=hr g e'.symm
  obtain ⟨cur,hb⟩:=h.type g hv
  rw [hb] at ho;cases ho;cases hc
theorem append_slJ {F:Fence} {n:Nat} {P:Program} {w:World} {ops:Array Oper} {rest:List Oper} {o:Oper} {a:Act} {Q:Exit→Act→World→Prop} (hgd:o.guard=none) (x y:Operand) (t:TypeId)
  (ho:o.op = .call { callee:= .builtin .append,args:=#[x,y],argTypes:=#[t,t] }) (e:TypeId) (s:Nat) (i:TypeInfo) (z:Value) (bytes:Nat) (ht:P.underlying t=some (.slice e)) (hi:P.info? e=some i) (hz:i.zero=some z) (hsize:i.size=s) (hby:i.bytes=bytes) (hzs:z.cells.size=s)
  (v:Value) (m:Nat) (xs:List Value) (hsv:a.eval x=v) (hsl:Sl w e s v m xs) (u:Value) (k:Nat) (news:List Value) (hsu:a.eval y=u) (hs:Src P s t u k news w) (h63:m + k ≤ maxLen) (hbytes:(m + k) * bytes ≤ 140737488355328)
  (h:∀ v' w',Sl w' e s v' (m + k) (xs ++ news)→w.grownBy w' v.ownBlock→Next w w' v v'→wpListIn F n P ops Q rest (a.put o.dst v') w'):wpListIn F n P ops Q (o :: rest) a w:=by
 refine wpListIn_plain hgd fun K hK'=>?_
 obtain ⟨v',w',hrun,r1,r2,r3⟩:=run_append_sl (P:=P) w t t o.type e s i z bytes ht hi hz hsize hby hzs v m xs hsl u k news hs h63 hbytes
 unfold Oper.wpIn
 refine ⟨?_,?_⟩
 ·simp [Oper.about,ho,resolve,Target.leads,Sem.run_pure]
 ·rw [Oper.semAt_plain F _ _ (by rw [ho];intro c hc';cases hc')]
  simp [execOp,ho,resolve,invoke,builtin,hsv,hsu,hrun,Result.andThen]
  exact hK' _ _ (h v' w' r1 r2 r3)
theorem acc_step2 {X X4:World} {b0 B0 B1:Nat} {u v4:Value} {pre:List Nt} {x:Nt} (hb:Boxed X b0 24 u) (hs:NSl X u pre) (hk:∀ k,u.ownBlock=some k→B1 ≤ k) (h1:B1 ≤ b0) (hsz:B1 ≤ X.heap.size)
  (h4:Sl X4 45 24 v4 (pre.length + 1) (flat nt pre ++ nt x)) (hg:(X.alloc (.cells (na x) 45)).grownBy X4 u.ownBlock) (hn:Next (X.alloc (.cells (na x) 45)) X4 u v4) :
  (X4.cell? ⟨b0,0,none⟩=some u∧X4.frozen? ⟨b0,0,none⟩=false)∧KeepsFrom B0 X (X4.setCell ⟨b0,0,none⟩ v4)∧Below B1 X (X4.setCell ⟨b0,0,none⟩ v4) ∧
   (∃ u',Boxed (X4.setCell ⟨b0,0,none⟩ v4) b0 24 u'∧NSl (X4.setCell ⟨b0,0,none⟩ v4) u' (pre ++ [x])∧∀ k,u'.ownBlock=some k→B1 ≤ k):=by
 have keep:∀ k,k < X.heap.size→some k ≠ u.ownBlock→X4.heap[k]?=X.heap[k]?:=fun k hk he=>(hg.block k (by simp;omega) he).trans (Below.heap_alloc _ _ _ hk)
 have hbl0:=Go.Boxed.lt hb
 have hbu:some b0 ≠ u.ownBlock:=fun e=>by
  obtain ⟨cur,hc⟩:=hs.type _ e.symm
  exact tyne (show X.heap[b0]?=_ from hb) hc (by decide) rfl
 have b4:Boxed X4 b0 24 u:=(keep b0 hbl0 hbu).trans hb
 have hk4:∀ k,v4.ownBlock=some k→B1 ≤ k:=fun k e=>by
  rcases hn with h | h
  ·exact hk k (h ▸ e)
  ·have:=h k e;simp at this;omega
 have hz4:=hg.size
 simp at hz4
 have keep5:∀ k,k < X.heap.size→k ≠ b0→some k ≠ u.ownBlock→(X4.setCell ⟨b0,0,none⟩ v4).heap[k]?=X.heap[k]?:=fun k h1 h2 h3=>(Below.heap_setCell _ _ _ _ h2).trans (keep k h1 h3)
 have hz5:(X4.setCell ⟨b0,0,none⟩ v4).heap.size=X4.heap.size:=by simp [World.setCell]
 have h4b:some b0 ≠ v4.ownBlock:=hn.ne (by simp;omega) hbu
 refine ⟨⟨b4.cell,b4.frozen⟩,⟨by rw [hz5];omega,fun k o h1 ho hc=>?_⟩,⟨hg.os,hg.tape,hg.output,by rw [hz5];omega,fun k hkk=>keep5 k (by omega) (by omega) (fun e=>by have:=hk k e.symm;omega)⟩,⟨v4,b4.set v4,?_,hk4⟩⟩
 ·refine (keep5 k (lt_of ho) (fun e=>?_) (fun e=>?_)).trans ho
  ·subst e
   rw [show X.heap[k]?=_ from hb] at ho;cases ho;cases hc
  ·obtain ⟨cur,hcur⟩:=hs.type k e.symm
   rw [hcur] at ho;cases ho;cases hc
 ·show Sl _ _ 24 v4 (pre ++ [x]).length (flat nt (pre ++ [x]))
  rw [flat_append,flat_single,List.length_append]
  exact h4.of_block fun g hg=>Below.heap_setCell _ _ _ _ (fun e=>h4b (by rw [hg,e]))
theorem acc_from2 {B:Nat} (b0 B1:Nat):OwnFrom B (fun (pre:List Nt) X=>∃ u,Boxed X b0 24 u∧NSl X u pre∧∀ k,u.ownBlock=some k→B1 ≤ k):=by
 rintro s A B' row ⟨u,h1,h2,h3⟩ hg hr
 refine ⟨u,h1.kept hg fun e=>?_,h2.own2 hg (fun r e=>(hr r e).2),h3⟩
 obtain ⟨hb,o,ho,hc⟩:=hr _ e.symm
 rw [show A.heap[b0]?=_ from h1] at ho;cases ho;cases hc
theorem below_put {n₀ l:Nat} (W:World) (o:Obj) (h:n₀ ≤ l):Below n₀ W (W.putObj l o):=
 ⟨rfl,rfl,rfl,by simp [World.putObj],fun k hk=>World.putObj_heap_other (by omega)⟩
theorem range_fr {F:Fence} {n:Nat} {P:Program} {α:Type} {g:Operand} {ps:Array Tmp} {assign body:Code} {Q:Exit→Act→World→Prop} {a:Act} {w:World} (fr:α→Array Value→Array Value)
  (hro:F.round=none) (h1:1 ≤ n) {gf:Nat} {lb:Array Value} (hg:a.eval g = .func (.func gf) #[] lb) (hFg:F.fn gf) (eg:∀ args w,(callFunc gf args).run P w = .ok (.enter gf args) w)
  {encs:α→Array Value} {Kp:World→World→Prop} {S Sp:List α→Prop} {N:Nat} {w0:World} (hseq:SeqStopsK F (n - 1) P gf lb encs Kp S Sp N w0)
  (hKt:∀ {A B C:World},Kp A B→Kp B C→Kp A C) (hKb:∀ (W:World) (l:Nat) (o o':Obj),w.heap.size ≤ l→W.heap[l]?=some o→o.isCells=false→o.isWalk=false→Kp W (W.putObj l o')) (hb0:Below w0.heap.size w0 w) (hps:∀ x,(encs x).size=ps.size)
  (I:List α→World→Prop) (Ix:Code→List α→World→Prop) (hI:OwnFrom w.heap.size I) (hIx:∀ c,OwnFrom w.heap.size (Ix c)) (h0:I [] w)
  (hassign:∀ (l:Nat) (pre:List α) (x:α) (W:World) (K:Act→World→Prop),I pre W→(∀ W',KeepsFrom w.heap.size W W'→Kp W W'→I pre W'→K { tmps:=fr x a.tmps,defers:=[] } W') →
   assign.wpIn (F.inRound l) (n - 1 - 1) P (Exit.then K (fun _ _ _=>False)) { tmps:=(ps.zip (encs x)).foldl (fun t (p,v)=>t.setIfInBounds p v) a.tmps,defers:=[] } W)
  (hbody:∀ (l:Nat) (pre:List α) (x:α) (W:World),w.heap.size ≤ l→I pre W→pre.length < N→body.wpIn (F.inRound l) (n - 1 - 1) P (ownPostG w.heap.size Kp I Ix (pre ++ [x]) W) { tmps:=fr x a.tmps,defers:=[] } W)
  (hdone:∀ (D:Nat) (xs:List α) (W:World),w.heap.size ≤ D→S xs→I xs W→W.heap[D]?=some (.deferred (some []))→Q .normal { a with defers:={ target:= .collected D,args:=#[] } :: a.defers } W)
  (hstop:∀ (D:Nat) (c:Code) (pre:List α) (W:World),w.heap.size ≤ D→Sp pre→Ix c pre W→W.heap[D]?=some (.deferred (some []))→c.wpIn F n P Q { a with defers:={ target:= .collected D,args:=#[] } :: a.defers } W) :
  (Code.rangeFunc g ps assign body).wpIn F n P Q a w:=
 wpIn_rangeFunc_ownH hro h1 hg hFg eg hseq hKt hKb hb0 hps I Ix hI hIx h0 (fun x a' _=>a'={ tmps:=fr x a.tmps,defers:=[] }) (fun _ _ _ _ _ _ h _ _=>h)
  (fun l pre x W K hi hK=>hassign l pre x W K hi fun W' h1 h2 h3=>hK _ W' h1 h2 h3 rfl)
  (fun l pre x a' W hl _ hi ha hlt=>by rw [ha];exact hbody l pre x W hl hi hlt) hdone hstop
theorem range_frB {F:Fence} {n:Nat} {P:Program} {α:Type} {g:Operand} {ps:Array Tmp} {assign body:Code} {Q:Exit→Act→World→Prop} {a:Act} {w:World} (fr:α→Nat→Array Value→Array Value) (cx:α→Array Value) (T:TypeId)
  (hro:F.round=none) (h1:1 ≤ n) {gf:Nat} {lb:Array Value} (hg:a.eval g = .func (.func gf) #[] lb) (hFg:F.fn gf) (eg:∀ args w,(callFunc gf args).run P w = .ok (.enter gf args) w)
  {encs:α→Array Value} {Kp:World→World→Prop} {S Sp:List α→Prop} {N:Nat} {w0:World} (hseq:SeqStopsK F (n - 1) P gf lb encs Kp S Sp N w0)
  (hKt:∀ {A B C:World},Kp A B→Kp B C→Kp A C) (hKb:∀ (W:World) (l:Nat) (o o':Obj),w.heap.size ≤ l→W.heap[l]?=some o→o.isCells=false→o.isWalk=false→Kp W (W.putObj l o')) (hb0:Below w0.heap.size w0 w) (hps:∀ x,(encs x).size=ps.size)
  (I:List α→World→Prop) (Ix:Code→List α→World→Prop) (hI:OwnFrom w.heap.size I) (hIx:∀ c,OwnFrom w.heap.size (Ix c)) (h0:I [] w)
  (hassign:∀ (l:Nat) (pre:List α) (x:α) (W:World) (K:Act→World→Prop),I pre W→(∀ B W',w.heap.size ≤ B→W'.heap[B]?=some (.cells (cx x) T (0,0))→KeepsFrom w.heap.size W W'→Kp W W'→I pre W'→K { tmps:=fr x B a.tmps,defers:=[] } W') →
   assign.wpIn (F.inRound l) (n - 1 - 1) P (Exit.then K (fun _ _ _=>False)) { tmps:=(ps.zip (encs x)).foldl (fun t (p,v)=>t.setIfInBounds p v) a.tmps,defers:=[] } W)
  (hbody:∀ (l:Nat) (pre:List α) (x:α) (B:Nat) (W:World),w.heap.size ≤ l→I pre W→w.heap.size ≤ B→W.heap[B]?=some (.cells (cx x) T (0,0))→pre.length < N→body.wpIn (F.inRound l) (n - 1 - 1) P (ownPostG w.heap.size Kp I Ix (pre ++ [x]) W) { tmps:=fr x B a.tmps,defers:=[] } W)
  (hdone:∀ (D:Nat) (xs:List α) (W:World),w.heap.size ≤ D→S xs→I xs W→W.heap[D]?=some (.deferred (some []))→Q .normal { a with defers:={ target:= .collected D,args:=#[] } :: a.defers } W)
  (hstop:∀ (D:Nat) (c:Code) (pre:List α) (W:World),w.heap.size ≤ D→Sp pre→Ix c pre W→W.heap[D]?=some (.deferred (some []))→c.wpIn F n P Q { a with defers:={ target:= .collected D,args:=#[] } :: a.defers } W) :
  (Code.rangeFunc g ps assign body).wpIn F n P Q a w:=
 wpIn_rangeFunc_ownH hro h1 hg hFg eg hseq hKt hKb hb0 hps I Ix hI hIx h0 (fun x a' W=>∃ B,w.heap.size ≤ B∧W.heap[B]?=some (.cells (cx x) T (0,0))∧a'={ tmps:=fr x B a.tmps,defers:=[] })
  (fun x a' s A C row ⟨B,h1,h2,h3⟩ hg hr=>⟨B,h1,(hg.block B (lt_of h2) (fun e=>by
   obtain ⟨_,o,ho,hc⟩:=hr _ e.symm
   rw [h2] at ho;cases ho;cases hc)).trans h2,h3⟩)
  (fun l pre x W K hi hK=>hassign l pre x W K hi fun B W' hB hb h1 h2 h3=>hK _ W' h1 h2 h3 ⟨B,hB,hb,rfl⟩)
  (fun l pre x a' W hl _ hi ⟨B,hB,hb,ha⟩ hlt=>by rw [ha];exact hbody l pre x B W hl hi hB hb hlt) hdone hstop
theorem make_cells (n:Nat) (hn:n ≤ 32) (w:World):∃ cs:Array Value,cs.size=n * 24∧(Instr.makeSlice 24 (.int .i64 0) (.int .i64 (n:Int))).run Tryz.prog w = .ok (.slice (some ⟨w.heap.size,0,none⟩) 0 n) (w.alloc (.cells cs 45)):=by
 obtain ⟨i0,hi,hz0,hz1,hz2⟩:=info_parts infoN
 have hrun:=run_make (P:=Tryz.prog) w 24 45 i0 _ Tryz.underlying24 hi hz0 .i64 .i64 0 n (Int.le_refl _) (by omega) (by rw [hz2];omega) (by omega)
 rw [Int.toNat_natCast,hz1] at hrun
 exact ⟨_,size_madeCells _ _,hrun⟩
end Go.Proofs.YtenhdijbcdkfbaaGreatDoor.tt
namespace Go.Proofs.YtenhdijbcdkfbaaGreatDoor.tt
set_option linter.unusedVariables false
set_option linter.unusedSimpArgs false
set_option maxRecDepth 1000000
set_option maxHeartbeats 16000000
open Go Go.RowKit Go.Shelf
attribute [local go_sem] Oper.semAt_some
attribute [local simp] wide_fn
theorem pall1_gen {α:Type} (ys:List α) (encs:α→Array Value) (n:Nat) (hn:1 ≤ n) (l Bn b B0:Nat) (v:Value) (ns:List Nt) (hys:ys.length=ns.length) (henc:∀ (k:Nat) a x,ys[k]?=some a→ns[k]?=some x→encs a=encP (x,k)) (J Jx:List α→World→Prop) (hl:ns.length ≤ 65536) (hA:AbidesFrom B0 J)
  (hY:∀ (pre:List α) (x:α) W,J pre W→pre.length < ns.length→YieldAt Fence.wide (n - 1) Tryz.prog l (encs x) W fun e W'=>
   (e = .returned (.bool true)∧J (pre ++ [x]) W'∧Same v W W') ∨ (e = .returned (.bool false)∧Jx (pre ++ [x]) W'))
  (W:World) (hBn:W.cell? ⟨Bn,0,none⟩=some (.pointer (some ⟨b,0,none⟩))) (hb:W.cell? ⟨b,0,none⟩=some v) (hs:NSl W v ns) (h0:J [] W) :
  CallsIn Fence.wide n Tryz.prog 95 #[.func (.yield l) #[] #[],.pointer (some ⟨Bn,0,none⟩)] W fun e W'=>(∃ v,e = .returned v) ∧
   ((∃ zs,zs=ys∧J zs W') ∨ (∃ pre,pre <+: ys∧Jx pre W')):=by
 obtain ⟨ad,cap,hv⟩:=hs.form
 obtain ⟨q,hq⟩:∃ q,q=ns.length:=⟨_,rfl⟩
 rw [← hq] at hv hl hY
 have HQ:=qh hq
 have HS:=qh hs
 have HYS:=qh hys
 have HEN:=qh henc
 clear hys henc
 have HJ:Hid (∀ s W W',J s W→W.grownBy W' none→J s W'):=qh fun s W W' h1 h2=>hA s W W' none h1 h2 (fun r e=>by cases e)
 have HV:Hid (∀ k,v.ownBlock=some k→k < W.heap.size):=qh hs.lt
 have HZ:Hid (na zn=_):=qh (bare_na 0 0 0 0 0 0 false false)
 clear hq hs hA
 subst hv
 refine callsIn_of_wp Tryz.func95 rfl trivial ?_ rfl
 simp only [Tryz.ntmps95,List.size_toArray,List.length_cons,List.length_nil,Nat.reduceAdd,Nat.reduceSub,Array.replicate_succ,Array.replicate_zero,List.push_toArray,List.append_toArray,List.nil_append,List.cons_append]
 gi_wp2
 gi_loopw [12] (fun i wr=>∃ (k:Nat),k ≤ q∧i = .int .i64 (k:Int)∧NSl wr (.slice ad q cap) ns∧J (ys.take k) wr)
  (fun i _=>q - (intOf i).toNat)
 case atStart=>
  exact ⟨0,Nat.zero_le _,rfl,HS.out,h0⟩
 case round=>
  obtain ⟨k,hk,rfl,hsr,hJ⟩:=hrel
  by_cases hlt:k < q
  ·obtain ⟨x,hx⟩:∃ x,ns[k]?=some x:=⟨_,List.getElem?_eq_getElem (by have:=HQ.out;omega)⟩
   obtain ⟨g,off,rfl,hqq,hr⟩:=nsl_at hsr k x hx
   clear hqq
   obtain ⟨y,hz⟩:∃ y,ys[k]?=some y:=⟨_,List.getElem?_eq_getElem (by have:=HQ.out;have:=HYS.out;omega)⟩
   have hec:=HEN.out k y x hz hx
   have hg1:wr.grownBy (wr.alloc (.cells (na x) 45)) none:=grown_alloc (grown_refl _ _) _
   obtain ⟨fn,tmps,assign,body,hy,hR⟩:=hY (ys.take k) y _ (HJ.out _ _ _ hJ hg1) (by rw [List.length_take];omega)
   have HZ2:=qh (take_snoc ys k y hz)
   have HSR:=qh (hsr.grown hg1)
   have HRX:=qh hr
   have HN:Hid ((wr.alloc (.cells (na x) 45)).rangeAt wr.heap.size 0 (nt x)):=qh (range_of (heap_alloc_new _ _))
   rw [hec] at hy
   unfold encP at hy
   dsimp only at hy
   clear hx hz hsr hY hr hg1 hec
   gi_wp2_with (first
    | ((with_reducible refine load_naI x _ g (off + k * 24) ?_ HRX.out ?_);(rfl))
    | ((with_reducible refine store_newI x _ HZ.out _ _ ?_ ?_ ?_);(rfl);(rfl))
    | ((with_reducible refine load_naI x _ wr.heap.size 0 ?_ HN.out ?_);(rfl)))
   refine hR.mono ?_
   rintro e W3 (⟨rfl,hJ3,hk3⟩ | ⟨rfl,hJx3⟩)
   ·have HS3:=qh (HSR.out.of_block hk3)
    gi_wp2
    go_roundw
    case rel=>exact ⟨k + 1,by omega,by go_num,HS3.out,by rw [HZ2.out];exact hJ3⟩
    case measure=>simp [intOf];omega
   ·gi_wp2
    refine bodyPost_ret (results_none rfl _ _ _) rfl ?_
    exact ⟨⟨_,rfl⟩,.inr ⟨_,by rw [← HZ2.out];exact List.take_prefix _ _,hJx3⟩⟩
  ·have hkn:k=q:=by omega
   subst hkn
   gi_wp2
   go_end0
   exact ⟨⟨_,rfl⟩,.inl ⟨_,by rw [List.take_of_length_le (by have:=HQ.out;have:=HYS.out;omega)],hJ⟩⟩
def encF (ns:List Nt) (i:Fin ns.length):Array Value:=#[.int .i64 (i.val:Int),.agg (na (ns.get i))]
theorem pall_fin (n:Nat) (hn:1 ≤ n) (Bn b:Nat) (v:Value) (room:Nat) (ns:List Nt) (w:World) (hP:NPool w b v room ns) (hl:ns.length ≤ 65536) (hc:w.cell? ⟨Bn,0,none⟩=some (.pointer (some ⟨b,0,none⟩))) :
  SeqStopsK Fence.wide n Tryz.prog 95 #[.pointer (some ⟨Bn,0,none⟩)] (encF ns) (Same v) (fun ys=>ys=List.finRange ns.length) (fun pre=>pre <+: List.finRange ns.length) ns.length w:=fun l J Jx W hW hJ _ hY h0=>
 pall1_gen (List.finRange ns.length) (encF ns) n hn l Bn b W.heap.size v ns List.length_finRange (fun k a x ha hx=>by
   have hk:k < ns.length:=(List.getElem?_eq_some_iff.1 hx).1
   rw [List.getElem?_eq_getElem (by rw [List.length_finRange];exact hk)] at ha
   have ha':a=⟨k,hk⟩:=by rw [← Option.some.inj ha,List.getElem_finRange];rfl
   subst ha'
   rw [List.getElem?_eq_getElem hk] at hx
   have hx':=Option.some.inj hx
   unfold encF encP
   rw [← hx'];rfl) J Jx hl hJ hY W ((hW.cell (p:=⟨Bn,0,none⟩) (World.block_lt_of_cell? w _ hc)).trans hc) ((hW.cell (p:=⟨b,0,none⟩) hP.lt).trans hP.cell0) (hP.sl.of_block fun g hg=>hW.block g (hP.sl.lt g hg)) h0
end Go.Proofs.YtenhdijbcdkfbaaGreatDoor.tt
