/-
  The document's own Backs: where they lie, what their Has, Len, Find, Kill, Drop, Put answer, what is there behind them: definitions and contracts. No condition but what each theorem names.
  What the document's own Backs answer to New, Find, Drop, Kill, Put, and what is there behind them: contracts. No condition but what each theorem names.
  What the document's own Backs answer to New and Put, and what is there behind them: contracts. No condition but what each theorem names.
-/
import Derived.Test.YtcoimipgilkmbaaGreatDoorTl
import Derived.Test.YtcoimipgilkmbaaGreatDoorBkx
import Derived.Test.YtcoimipgilkmbaaGreatDoorPr
import Derived.Laws.MakeOwn
namespace Go.Proofs.YtcoimipgilkmbaaGreatDoor.bk
set_option linter.unusedVariables false
set_option linter.unusedSimpArgs false
set_option maxRecDepth 1000000
set_option maxHeartbeats 16000000
open Go Go.ChangeShapes Go.WideShapes Go.ChangeAt Go.RowKit
open Go.Proofs.YtcoimipgilkmbaaGreatDoor.tt (Cfg Tab CfgAt cfg_at hb_bounds eql29k U zd row tyne add_lit lt_of range_grown heap_setCells_other setCells_rest grown_setCells grown_setRow grown_new grown_drewN below_of grown_alloc grown_refl grown_trans grown_drew Sl Pool Turn Next flat flat_len flat_at heap_setCells)
theorem sl_put {α:Type} {f:α→List Value} {s:Nat} (hf:∀ x,(f x).length=s) (hs:0 < s) {w:World} {e:TypeId} {g off cap n:Nat} {xs:List α} (h:Sl w e s (.slice (some ⟨g,off,none⟩) n cap) xs.length (flat f xs)) {b:Nat} (hb:b < xs.length) (x:α) :
  Sl (w.setCells g (off + b * s) (f x)) e s (.slice (some ⟨g,off,none⟩) n cap) (xs.set b x).length (flat f (xs.set b x))∧w.grownBy (w.setCells g (off + b * s) (f x)) (some g):=by
 refine ⟨?_,grown_setCells w g _ _⟩
 rcases h with ⟨e1,_⟩ | ⟨g',off',cap',cur,e1,hcur,h1,h2,h3,h4,h5⟩
 ·cases e1
 cases e1
 have hbc:b * s + s ≤ cap * s:=by
  have:=Nat.mul_le_mul_right s (show b + 1 ≤ cap by omega)
  rwa [Nat.succ_mul] at this
 obtain ⟨cur',q1,q2,q3,q4⟩:=heap_setCells g e (f x) (off + b * s) w cur hcur (by rw [hf];omega)
 refine .inr ⟨g,off,cap,cur',by rw [List.length_set],q1,by rw [flat_len hf],by rw [List.length_set];exact h2,h3,by omega,fun k y hk=>?_⟩
 have hk':k < (xs.set b x).length * s:=by rw [← flat_len hf];exact (List.getElem?_eq_some_iff.1 hk).1
 have hd:k / s < (xs.set b x).length:=(Nat.div_lt_iff_lt_mul hs).2 hk'
 have hm:k % s < s:=Nat.mod_lt _ hs
 have hkk:k / s * s + k % s=k:=Nat.div_add_mod' k s
 obtain ⟨z,hz⟩:∃ z,(xs.set b x)[k / s]?=some z:=⟨_,List.getElem?_eq_getElem hd⟩
 obtain ⟨u,hu⟩:∃ u,(f z)[k % s]?=some u:=⟨_,List.getElem?_eq_getElem (by rw [hf];exact hm)⟩
 have hyu:=flat_at hf _ _ z _ u hz hu
 rw [hkk,hk] at hyu
 cases hyu
 by_cases hkb:k / s=b
 ·have hzx:z=x:=by rw [hkb,List.getElem?_set_self hb] at hz;exact (Option.some.inj hz).symm
  subst hzx
  have:=q4 (k % s) y hu
  rw [hkb] at hkk
  rw [show off + b * s + k % s=off + k by omega] at this
  exact this
 ·rw [List.getElem?_set_ne (fun e=>hkb e.symm)] at hz
  have hfar:off + k < off + b * s ∨ off + b * s + (f x).length ≤ off + k:=by
   rw [hf]
   rcases Nat.lt_or_gt_of_ne hkb with hl | hl
   ·have:=Nat.mul_le_mul_right s (show k / s + 1 ≤ b from hl)
    rw [Nat.succ_mul] at this
    omega
   ·have:=Nat.mul_le_mul_right s (show b + 1 ≤ k / s from hl)
    rw [Nat.succ_mul] at this
    omega
  rw [q3 (off + k) hfar]
  refine h5 k y ?_
  have:=flat_at hf _ _ z _ y hz hu
  rwa [hkk] at this
theorem sl_cell {α:Type} {f:α→List Value} {s:Nat} (hf:∀ x,(f x).length=s) (hs:0 < s) {w:World} {e:TypeId} {g off cap n:Nat} {xs:List α} (h:Sl w e s (.slice (some ⟨g,off,none⟩) n cap) xs.length (flat f xs)) {b:Nat} {y:α} (hy:xs[b]?=some y) {i:Nat} (hi:i < s) {v:Value} (x:α) (hx:f x=(f y).set i v) :
  Sl (w.setCell ⟨g,off + b * s + i,none⟩ v) e s (.slice (some ⟨g,off,none⟩) n cap) (xs.set b x).length (flat f (xs.set b x))∧w.grownBy (w.setCell ⟨g,off + b * s + i,none⟩ v) (some g):=by
 have hb:b < xs.length:=(List.getElem?_eq_some_iff.1 hy).1
 refine ⟨?_,grown_setCells w g (off + b * s + i) [v]⟩
 rcases h with ⟨e1,_⟩ | ⟨g',off',cap',cur,e1,hcur,h1,h2,h3,h4,h5⟩
 ·cases e1
 cases e1
 have hbc:b * s + s ≤ cap * s:=by
  have:=Nat.mul_le_mul_right s (show b + 1 ≤ cap by omega)
  rwa [Nat.succ_mul] at this
 obtain ⟨cur',q1,q2,q3,q4⟩:=heap_setCells g e [v] (off + b * s + i) w cur hcur (by simp;omega)
 refine .inr ⟨g,off,cap,cur',by rw [List.length_set],q1,by rw [flat_len hf],by rw [List.length_set];exact h2,h3,by omega,fun k u hk=>?_⟩
 have hk':k < (xs.set b x).length * s:=by rw [← flat_len hf];exact (List.getElem?_eq_some_iff.1 hk).1
 have hd:k / s < (xs.set b x).length:=(Nat.div_lt_iff_lt_mul hs).2 hk'
 have hm:k % s < s:=Nat.mod_lt _ hs
 have hkk:k / s * s + k % s=k:=Nat.div_add_mod' k s
 obtain ⟨z,hz⟩:∃ z,(xs.set b x)[k / s]?=some z:=⟨_,List.getElem?_eq_getElem hd⟩
 obtain ⟨u',hu⟩:∃ u,(f z)[k % s]?=some u:=⟨_,List.getElem?_eq_getElem (by rw [hf];exact hm)⟩
 have hyu:=flat_at hf _ _ z _ u' hz hu
 rw [hkk,hk] at hyu
 cases hyu
 by_cases hkb:k / s=b
 ·have hzx:z=x:=by rw [hkb,List.getElem?_set_self hb] at hz;exact (Option.some.inj hz).symm
  subst hzx
  rw [hkb] at hkk
  rw [hx] at hu
  by_cases hki:k % s=i
  ·rw [hki,List.getElem?_set_self (by rw [hf];exact hi)] at hu
   have:=q4 0 v rfl
   rw [show off + b * s + i + 0=off + k by omega] at this
   rw [this];exact hu
  ·rw [List.getElem?_set_ne (fun e=>hki e.symm)] at hu
   rw [q3 (off + k) (by simp;omega)]
   have:=h5 _ _ (flat_at hf _ _ y _ u hy hu)
   rw [hkk] at this
   exact this
 ·rw [List.getElem?_set_ne (fun e=>hkb e.symm)] at hz
  have hfar:off + k < off + b * s + i ∨ off + b * s + i + [v].length ≤ off + k:=by
   simp only [List.length_singleton]
   rcases Nat.lt_or_gt_of_ne hkb with hl | hl
   ·have:=Nat.mul_le_mul_right s (show k / s + 1 ≤ b from hl)
    rw [Nat.succ_mul] at this
    omega
   ·have:=Nat.mul_le_mul_right s (show b + 1 ≤ k / s from hl)
    rw [Nat.succ_mul] at this
    omega
  rw [q3 (off + k) hfar]
  refine h5 k u ?_
  have:=flat_at hf _ _ z _ u hz hu
  rwa [hkk] at this
structure Rb where
 i:Bool
 l:Bool
 d:List Int
 hd:d.length=16
def rt (x:Rb):List Value:= .bool x.i :: .bool x.l :: x.d.map U
def ra (x:Rb):Array Value:=(rt x).toArray
theorem rt_len (x:Rb):(rt x).length=18:=by simp [rt,x.hd]
theorem ra_size (x:Rb):(ra x).size=18:=by simp [ra,rt_len]
theorem rt_one (x:Rb):∀ v ∈ rt x,v.oneCell'=true:=by
 intro v hv
 simp [rt,U] at hv
 rcases hv with rfl | rfl | ⟨y,_,rfl⟩ <;> rfl
def rof (o:Option Bk):Rb:=match o with | some x=>⟨true,x.l,x.d,x.hd⟩ | none=>⟨false,false,zd,rfl⟩
theorem rof_i (o:Option Bk):(rof o).i=o.isSome:=by cases o <;> rfl
theorem rof_l (o:Option Bk):(rof o).l=fl o:=by cases o <;> rfl
theorem rof_d (o:Option Bk):(rof o).d=fd o:=by cases o <;> rfl
def tab (N:Nat) (ns:List Bk):List Rb:=(List.range N).map fun (k:Nat)=>rof (look ns (k:Int))
theorem tab_len (N:Nat) (ns:List Bk):(tab N ns).length=N:=by simp [tab]
theorem tab_get {N:Nat} (ns:List Bk) {k:Nat} (h:k < N):(tab N ns)[k]?=some (rof (look ns (k:Int))):=by
 unfold tab
 rw [List.getElem?_map,List.getElem?_range h];rfl
theorem tab_set {N:Nat} {ns ns':List Bk} {b:Nat} (hb:b < N) (h:∀ c:Nat,c ≠ b→look ns' (c:Int)=look ns (c:Int)):tab N ns'=(tab N ns).set b (rof (look ns' (b:Int))):=by
 apply List.ext_getElem?
 intro k
 by_cases hk:k < N
 ·by_cases hkb:k=b
  ·subst hkb
   rw [tab_get ns' hk,List.getElem?_set_self (by rw [tab_len];exact hk)]
  ·rw [tab_get ns' hk,List.getElem?_set_ne (fun e=>hkb e.symm),tab_get ns hk,h k hkb]
 ·rw [List.getElem?_eq_none (by rw [tab_len];omega),List.getElem?_eq_none (by rw [List.length_set,tab_len];omega)]
theorem tab_same {N:Nat} {ns ns':List Bk} (h:∀ c:Nat,look ns' (c:Int)=look ns (c:Int)):tab N ns'=tab N ns:=by
 unfold tab
 congr 1
 funext k
 rw [h k]
theorem tab_count {N:Nat} {ns:List Bk} (h:Nd ns) (hr:Rg (N:Int) ns):(tab N ns).countP (·.i)=ns.length:=by
 have h1:(tab N ns).countP (·.i)=((List.range N).filter fun (k:Nat)=>(look ns (k:Int)).isSome).length:=by
  unfold tab
  rw [List.countP_map,List.countP_eq_length_filter]
  congr 1
  apply List.filter_congr
  intro k _
  show (rof (look ns (k:Int))).i=_
  rw [rof_i]
 have h2:(ns.map fun x=>x.b.toNat).Nodup:=by
  unfold Nd at h
  unfold List.Nodup at *
  rw [List.pairwise_map] at h ⊢
  refine List.Pairwise.imp_of_mem ?_ h
  intro x y hx hy hne e
  have:=hr x hx
  have:=hr y hy
  exact hne (by omega)
 have h3:((List.range N).filter fun (k:Nat)=>(look ns (k:Int)).isSome).Perm (ns.map fun x=>x.b.toNat):=by
  rw [List.perm_ext_iff_of_nodup (List.nodup_range.filter _) h2]
  intro k
  simp only [List.mem_filter,List.mem_range,List.mem_map]
  constructor
  ·rintro ⟨hk,hs⟩
   obtain ⟨x,hx⟩:=Option.isSome_iff_exists.1 hs
   exact ⟨x,look_mem hx,by have:=look_b hx;omega⟩
  ·rintro ⟨x,hx,rfl⟩
   have hb:=hr x hx
   have hl:=look_some_of_mem h hx
   refine ⟨by omega,?_⟩
   rw [show ((x.b.toNat:Nat):Int)=x.b by omega,hl];rfl
 rw [h1,h3.length_eq,List.length_map]
theorem out_none {n:Int} {ns:List Bk} {b:Int} (h:Rg n ns) (hb:b < 0 ∨ n ≤ b):look ns b=none:=by
 rw [look_none_iff]
 intro x hx e
 have:=h x hx
 omega
structure RAt (w:World) (r g N m:Nat) (ns:List Bk):Prop where
 blk:w.heap[r]?=some (.cells #[.slice (some ⟨g,0,none⟩) N N,.int .i64 (m:Int)] 136 (0,0))
 sl:Sl w 133 18 (.slice (some ⟨g,0,none⟩) N N) (tab N ns).length (flat rt (tab N ns))
section
variable {w w':World} {r g N m:Nat} {ns ns':List Bk}
theorem RAt.typ (h:RAt w r g N m ns):∃ cur,w.heap[g]?=some (.cells cur 133 (0,0)):=h.sl.type g rfl
theorem RAt.of_block (h:RAt w r g N m ns) (h1:w'.heap[r]?=w.heap[r]?) (h2:w'.heap[g]?=w.heap[g]?):RAt w' r g N m ns:=
 ⟨h1.trans h.blk,h.sl.of_block fun k e=>by simp [Value.ownBlock] at e;subst e;exact h2⟩
theorem RAt.grown (h:RAt w r g N m ns) (hg:w.grownBy w' none):RAt w' r g N m ns:=by
 obtain ⟨cur,hc⟩:=h.typ
 exact h.of_block (hg.block r (lt_of h.blk) (by simp)) (hg.block g (lt_of hc) (by simp))
theorem RAt.c0 (h:RAt w r g N m ns):w.cell? ⟨r,0,none⟩=some (.slice (some ⟨g,0,none⟩) N N):=by simp [World.cell?,h.blk]
theorem RAt.c1 (h:RAt w r g N m ns):w.cell? ⟨r,1,none⟩=some (.int .i64 (m:Int)):=by simp [World.cell?,h.blk]
theorem RAt.at_ (h:RAt w r g N m ns) {k:Nat} (hk:k < N):w.rangeAt g (k * 18) (rt (rof (look ns (k:Int)))):=fun j v hv=>by
 have hx:=flat_at rt_len (tab N ns) k _ j v (tab_get ns hk) hv
 obtain ⟨g',off,ha,_,hc⟩:=h.sl.cellAt _ _ hx
 cases ha
 have:=hc _ _ hx
 rwa [Nat.zero_add] at this
theorem RAt.ci (h:RAt w r g N m ns) {k:Nat} (hk:k < N):w.cell? ⟨g,k * 18,none⟩=some (.bool (look ns (k:Int)).isSome):=by
 have:=h.at_ hk 0 _ rfl
 rwa [Nat.add_zero,rof_i] at this
theorem RAt.cl (h:RAt w r g N m ns) {k:Nat} (hk:k < N):w.cell? ⟨g,k * 18 + 1,none⟩=some (.bool (fl (look ns (k:Int)))):=by
 have:=h.at_ hk 1 _ rfl
 rwa [rof_l] at this
theorem RAt.cd (h:RAt w r g N m ns) {k:Nat} (hk:k < N):w.rangeAt g (k * 18 + 2) ((fd (look ns (k:Int))).map U):=fun j v hv=>by
 have:=h.at_ hk (2 + j) v (by rw [Nat.add_comm];simp only [rt,List.getElem?_cons_succ];rw [rof_d];exact hv)
 rwa [Nat.add_assoc]
theorem RAt.frozen (h:RAt w r g N m ns) (j:Nat):w.frozen? ⟨g,j,none⟩=false:=by
 obtain ⟨cur,hc⟩:=h.typ
 exact frozen_of_row _ _ _ _ _ hc
theorem RAt.put (h:RAt w r g N m ns) {b:Nat} (hb:b < N) (hn:∀ c:Nat,c ≠ b→look ns' (c:Int)=look ns (c:Int)):RAt (w.setCells g (b * 18) (rt (rof (look ns' (b:Int))))) r g N m ns'∧w.grownBy (w.setCells g (b * 18) (rt (rof (look ns' (b:Int))))) (some g):=by
 obtain ⟨cur,hc⟩:=h.typ
 obtain ⟨hs,hg⟩:=sl_put rt_len (by decide) h.sl (b:=b) (by rw [tab_len];exact hb) (rof (look ns' (b:Int)))
 rw [Nat.zero_add,← tab_set hb hn] at hs
 rw [Nat.zero_add] at hg
 exact ⟨⟨(hg.block r (lt_of h.blk) (fun e=>tyne h.blk hc (by decide) (Option.some.inj e))).trans h.blk,hs⟩,hg⟩
theorem RAt.live (h:RAt w r g N m ns) {b:Nat} (hb:b < N) (hn:∀ c:Nat,c ≠ b→look ns' (c:Int)=look ns (c:Int)) (hi:(look ns' (b:Int)).isSome=(look ns (b:Int)).isSome) (hd:fd (look ns' (b:Int))=fd (look ns (b:Int))) :
  RAt (w.setCell ⟨g,b * 18 + 1,none⟩ (.bool (fl (look ns' (b:Int))))) r g N m ns'∧w.grownBy (w.setCell ⟨g,b * 18 + 1,none⟩ (.bool (fl (look ns' (b:Int))))) (some g):=by
 obtain ⟨cur,hc⟩:=h.typ
 obtain ⟨hs,hg⟩:=sl_cell rt_len (by decide) h.sl (b:=b) (tab_get ns hb) (i:=1) (by decide) (v:= .bool (fl (look ns' (b:Int)))) (rof (look ns' (b:Int))) (by
  unfold rt
  rw [rof_i,rof_i,rof_l,rof_d,rof_d,hi,hd];rfl)
 rw [Nat.zero_add,← tab_set hb hn] at hs
 rw [Nat.zero_add] at hg
 exact ⟨⟨(hg.block r (lt_of h.blk) (fun e=>tyne h.blk hc (by decide) (Option.some.inj e))).trans h.blk,hs⟩,hg⟩
theorem RAt.same (h:RAt w r g N m ns) (hn:∀ c:Nat,look ns' (c:Int)=look ns (c:Int)):RAt w r g N m ns':=⟨h.blk,by rw [tab_same hn];exact h.sl⟩
end
section
variable {w:World} {r g N m:Nat} {ns:List Bk} (H:RAt w r g N m ns)
include H
theorem rhas_any (hR:Rg (N:Int) ns) (b:Int):Calls Tryz.prog 78 #[.pointer (some ⟨r,0,none⟩),.int .i64 b] w fun e w'=>e = .returned (.bool (look ns b).isSome)∧w=w':=by
 have hc:=H.c0
 by_cases h0:b < 0
 ·rw [out_none hR (.inl h0)]
  clear H hR
  go_enter Tryz.func78,Tryz.ntmps78
  go_wp2
  go_ret
  exact ⟨rfl,rfl⟩
 ·have hb0:0 ≤ b:=by omega
  by_cases h1:(N:Int) ≤ b
  ·rw [out_none hR (.inr h1)]
   have hbd:decide (b < (N:Int))=false:=by simp;omega
   clear H hR h0
   go_enter Tryz.func78,Tryz.ntmps78
   go_wp2
   go_ret
   exact ⟨rfl,rfl⟩
  ·obtain ⟨k,rfl⟩:∃ k:Nat,b=(k:Int):=⟨b.toNat,by omega⟩
   have hk:k < N:=by omega
   have hci:=H.ci hk
   have hbd:decide ((k:Int) < (N:Int))=true:=by simp;omega
   generalize (look ns (k:Int)).isSome=IS at hci ⊢
   clear H hR h0 h1
   go_enter Tryz.func78,Tryz.ntmps78
   go_wp2
   go_ret
   exact ⟨rfl,rfl⟩
theorem rlen_any (hN:N ≤ 256) (hI:Nd ns) (hR:Rg (N:Int) ns):Calls Tryz.prog 108 #[.pointer (some ⟨r,0,none⟩)] w fun e w'=>e = .returned (.int .i64 (ns.length:Int))∧w=w':=by
 have hc:=H.c0
 have HC:Hid (∀ k,k < N→w.cell? ⟨g,k * 18,none⟩=some (.bool (look ns (k:Int)).isSome)):=qh fun k hk=>H.ci hk
 have HCT:=qh (tab_count hI hR)
 have HN:=qh hN
 clear H hI hR
 go_enter Tryz.func108,Tryz.ntmps108
 go_wp2
 go_loopw [4,3] (fun i n wr=>∃ j q:Nat,j ≤ N∧q ≤ j∧i = .int .i64 (j:Int)∧n = .int .i64 (q:Int)∧q=((tab N ns).take j).countP (·.i)∧wr=w) (fun i _ _=>N - (intOf i).toNat)
 case atStart=>exact ⟨0,0,Nat.zero_le _,Nat.le_refl _,rfl,rfl,rfl,rfl⟩
 case round=>
  obtain ⟨j,q,hj,hqj,rfl,rfl,hq,rfl⟩:=hrel
  have HQ:=qh hq
  clear hq
  have hjN:j ≤ 256:=by omega
  by_cases hlt:j < N
  ·have hci:=HC.out j hlt
   have htk:(tab N ns).take (j + 1)=(tab N ns).take j ++ [rof (look ns (j:Int))]:=by rw [List.take_add_one,tab_get ns hlt];rfl
   have HT:=qh htk
   clear htk
   cases hs:(look ns (j:Int)).isSome with
   | true=>
    rw [hs] at hci
    have HS:=qh hs
    clear hs
    go_wp2
    go_roundw
    case rel=>exact ⟨j + 1,q + 1,by omega,by omega,by go_num,by go_num,by rw [HT.out,List.countP_append,← HQ.out];simp [rof_i,HS.out],by simp⟩
    case measure=>simp [intOf];omega
   | false=>
    rw [hs] at hci
    have HS:=qh hs
    clear hs
    go_wp2
    go_roundw
    case rel=>exact ⟨j + 1,q,by omega,by omega,by go_num,by go_num,by rw [HT.out,List.countP_append,← HQ.out];simp [rof_i,HS.out],by simp⟩
    case measure=>simp [intOf];omega
  ·go_wp2
   go_ret
   refine ⟨?_,rfl⟩
   have h1:=HQ.out
   rw [List.take_of_length_le (by rw [tab_len];omega),HCT.out] at h1
   rw [h1]
   rfl
end
end Go.Proofs.YtcoimipgilkmbaaGreatDoor.bk

namespace Go.Proofs.YtcoimipgilkmbaaGreatDoor.bk
set_option linter.unusedVariables false
set_option linter.unusedSimpArgs false
set_option maxRecDepth 1000000
set_option maxHeartbeats 16000000
open Go Go.ChangeShapes Go.WideShapes Go.ChangeAt Go.RowKit
open Go.Proofs.YtcoimipgilkmbaaGreatDoor.tt (Cfg Tab CfgAt cfg_at rdata_any U zd row tyne add_lit lt_of range_grown heap_setCells_other setCells_rest grown_setCells grown_setRow grown_new grown_drewN below_of grown_alloc grown_refl grown_trans grown_drew Sl Pool Turn Next flat flat_len flat_at heap_setCells)
theorem ra_info (x:Rb):(Tryz.prog.info? 133).map (·.size)=some (ra x).size:=by
 have h:(Tryz.prog.info? 133).map (·.size)=some 18:=by kernel_rfl
 rw [ra_size];exact h
theorem ra_one (x:Rb):(ra x).all (·.oneCell')=true:=all_oneCell_toArray (rt_one x)
theorem RAt.there {w:World} {r g N m:Nat} {ns:List Bk} (h:RAt w r g N m ns) {k:Nat} (hk:k < N):w.there g (k * 18) 18:=fun i hi=>by
 obtain ⟨v,hv⟩:∃ v,(rt (rof (look ns (k:Int))))[i]?=some v:=⟨_,List.getElem?_eq_getElem (by rw [rt_len];exact hi)⟩
 exact ⟨by rw [h.at_ hk i v hv];rfl,h.frozen _⟩
section
variable {w:World} {ops:Array Oper} {rest:List Oper} {a:Act} {Q:Exit→Act→World→Prop} {dst:Option Tmp} {ty:TypeId} {pos:String} {after:Array Edge}
theorem store_rt (e:Rb) (A:Array Value) (hA:ra e=A) (x y:Tmp) (g o:Nat) (hx:a.eval (.tmp x) = .pointer (some ⟨g,o,none⟩)) (hy:a.eval (.tmp y) = .agg A) (hg:w.there g o 18)
  (h:wpList Tryz.prog ops Q rest (a.put dst undef) (w.setCells g o (rt e))):wpList Tryz.prog ops Q (⟨dst,.store 133 (.tmp x) (.tmp y),ty,pos,after,none⟩ :: rest) a w:=by
 subst hA
 exact wpList_store_mid rfl 133 (.tmp x) (.tmp y) rfl g o (ra e) hx hy (by rw [ra_size];exact hg) (ra_info e) (ra_one e) h
end
theorem store_rat (e:Rb) (W:World) (g o:Nat) (ht:W.there g o 18):(storeCells ⟨g,o,none⟩ (ra e).toList 0).run Tryz.prog W = .ok () (W.setCells g o (rt e)):=by
 have:=run_storeCells_cells (P:=Tryz.prog) g o (rt e) 0 W (fun j hj=>by simpa using (ht j (by simpa [rt_len] using hj)).1) (fun j hj=>by simpa using (ht j (by simpa [rt_len] using hj)).2) (rt_one e)
 simpa [ra] using this
theorem zero_rt:ra (rof none)=#[.bool false,.bool false,.int .u32 0,.int .u32 0,.int .u32 0,.int .u32 0,.int .u32 0,.int .u32 0,.int .u32 0,.int .u32 0,.int .u32 0,.int .u32 0,.int .u32 0,.int .u32 0,.int .u32 0,.int .u32 0,.int .u32 0,.int .u32 0]:=rfl
section
variable {w:World} {r g N m:Nat} {ns:List Bk} (H:RAt w r g N m ns)
include H
theorem rdrop_any (hI:Nd ns) (hR:Rg (N:Int) ns) (b:Int):Calls Tryz.prog 118 #[.pointer (some ⟨r,0,none⟩),.int .i64 b] w fun e w'=>e = .returned (.bool (look ns b).isSome)∧RAt w' r g N m (rem ns b)∧w.grownBy w' (some g):=by
 have hc:=H.c0
 have HHA:=qh (rhas_any H hR b)
 cases hs:(look ns b).isSome with
 | false=>
  rw [hs] at HHA
  have hn:look ns b=none:=by simpa using hs
  have HE:Hid (rem ns b=ns):=qh (rem_none hn)
  have HH:=qh H
  clear H hR hs hn
  go_enter Tryz.func118,Tryz.ntmps118
  go_wp2_with (go_at_call 78;((with_reducible refine HHA.out.mono ?_);rintro e w1 ⟨rfl,rfl⟩))
  go_ret
  exact ⟨rfl,by rw [HE.out];exact HH.out,grown_refl _ _⟩
 | true=>
  rw [hs] at HHA
  obtain ⟨x,hx⟩:=Option.isSome_iff_exists.1 hs
  have hb:=hR x (look_mem hx)
  rw [look_b hx] at hb
  obtain ⟨k,rfl⟩:∃ k:Nat,b=(k:Int):=⟨b.toNat,by omega⟩
  have hk:k < N:=by omega
  have HTH:=qh (H.there hk)
  have HP:=qh (H.put (ns':=rem ns (k:Int)) hk (fun c hc=>by rw [look_rem _ _ hI,if_neg (by omega)]))
  have he:look (rem ns (k:Int)) (k:Int)=none:=by rw [look_rem _ _ hI,if_pos rfl]
  rw [he] at HP
  have hk1:(k:Int) < (N:Int):=by omega
  clear H hR hI hs hx he hb
  go_enter Tryz.func118,Tryz.ntmps118
  go_wp2_with (first
   | (go_at_call 78;((with_reducible refine HHA.out.mono ?_);rintro e w1 ⟨rfl,rfl⟩))
   | ((with_reducible refine store_rt (rof none) _ zero_rt _ _ g (k * 18) ?_ ?_ HTH.out ?_);(rfl);(rfl)))
  go_ret
  exact ⟨rfl,HP.out.1,HP.out.2⟩
theorem rkill_any (hI:Nd ns) (hR:Rg (N:Int) ns) (b:Int):Calls Tryz.prog 157 #[.pointer (some ⟨r,0,none⟩),.int .i64 b] w fun e w'=>e = .returned (.bool (fl (look ns b)))∧RAt w' r g N m (kills ns b)∧w.grownBy w' (some g):=by
 have hc:=H.c0
 have HHA:=qh (rhas_any H hR b)
 have hfz:=H.frozen
 cases hs:look ns b with
 | none=>
  rw [hs] at HHA
  have HE:Hid (kills ns b=ns):=qh (by unfold kills;rw [hs])
  have HH:=qh H
  clear H hR hs hfz
  simp only [Option.isSome_none] at HHA
  go_enter Tryz.func157,Tryz.ntmps157
  go_wp2_with (go_at_call 78;((with_reducible refine HHA.out.mono ?_);rintro e w1 ⟨rfl,rfl⟩))
  go_ret
  exact ⟨rfl,by rw [HE.out];exact HH.out,grown_refl _ _⟩
 | some x=>
  rw [hs] at HHA
  have hb:=hR x (look_mem hs)
  have hxb:=look_b hs
  rw [hxb] at hb
  obtain ⟨k,rfl⟩:∃ k:Nat,b=(k:Int):=⟨b.toNat,by omega⟩
  have hk:k < N:=by omega
  have hcl:=H.cl hk
  have hk1:(k:Int) < (N:Int):=by omega
  have hlk:∀ c:Nat,c ≠ k→look (kills ns (k:Int)) (c:Int)=look ns (c:Int):=fun c hc=>by rw [look_kills _ _ hI,if_neg (by omega)]
  have hlk2:look (kills ns (k:Int)) (k:Int)=some (dead x):=by rw [look_kills _ _ hI,if_pos rfl,hs];rfl
  rw [hs] at hcl
  simp only [Option.isSome_some] at HHA
  have HFX:Hid (fl (some x)=x.l):=qh rfl
  rw [HFX.out] at hcl ⊢
  cases hxl:x.l with
  | false=>
   rw [hxl] at hcl
   have HH:=qh (H.same (ns':=kills ns (k:Int)) (fun c=>by
    by_cases hck:c=k
    ·subst hck
     rw [hlk2,hs]
     obtain ⟨xb,xd,xl,xh⟩:=x
     cases hxl;rfl
    ·exact hlk c hck))
   clear H hR hI hs hlk hlk2 hxl hxb hb hfz HFX
   go_enter Tryz.func157,Tryz.ntmps157
   go_wp2_with (go_at_call 78;((with_reducible refine HHA.out.mono ?_);rintro e w1 ⟨rfl,rfl⟩))
   go_ret
   exact ⟨rfl,HH.out,grown_refl _ _⟩
  | true=>
   rw [hxl] at hcl
   have hf:=hfz (k * 18 + 1)
   have hl:=H.live (ns':=kills ns (k:Int)) hk hlk (by rw [hlk2,hs];rfl) (by rw [hlk2,hs];rfl)
   rw [show fl (look (kills ns (k:Int)) (k:Int))=false by rw [hlk2];rfl] at hl
   have HH:=qh hl
   clear H hR hI hs hlk hlk2 hxl hxb hb hl hfz HFX
   go_enter Tryz.func157,Tryz.ntmps157
   go_wp2_with (go_at_call 78;((with_reducible refine HHA.out.mono ?_);rintro e w1 ⟨rfl,rfl⟩))
   go_ret
   exact ⟨rfl,HH.out.1,HH.out.2⟩
theorem rfind_any (hR:Rg (N:Int) ns) (b:Int):Calls Tryz.prog 33 #[.pointer (some ⟨r,0,none⟩),.int .i64 b] w fun e w'=>e = .returned (.tuple #[.agg (row (fd (look ns b))),.bool (fl (look ns b)),.bool (look ns b).isSome])∧w.grownBy w' none:=by
 obtain ⟨w2,hw,hg2,hb2,_⟩:=onerow w
 have hz:row zd=_:=zrow
 rw [hz] at hw
 have HB2:=qh hb2
 have HG2:=qh hg2
 have H2:=H.grown hg2
 have hc:=H2.c0
 have HHA:=qh (rhas_any H2 hR b)
 cases hs:look ns b with
 | none=>
  rw [hs] at HHA
  simp only [Option.isSome_none] at HHA
  clear H H2 hR hs hz hg2 hb2
  go_enter Tryz.func33,Tryz.ntmps33
  go_wp2_with (first
   | (go_at_call 78;((with_reducible refine HHA.out.mono ?_);rintro e w3 ⟨rfl,rfl⟩))
   | ((with_reducible refine store_row zd rfl _ _ zrow _ _ w.heap.size ?_ ?_ HB2.out ?_ ?_);(rfl);(rfl);(rfl)))
  have hr:(w2.setRow w.heap.size (row zd)).rangeAt w.heap.size 0 (zd.map U):=range_row (setRow_heap _ _ _ _ _ _ HB2.out)
  exact ret_row3 rfl _ zd rfl _ _ w.heap.size _ _ (by rfl) (by rfl) (by rfl) hr ⟨rfl,grown_setRow HG2.out _ (Nat.le_refl _) _⟩
 | some x=>
  rw [hs] at HHA
  simp only [Option.isSome_some] at HHA
  have hb:=hR x (look_mem hs)
  rw [look_b hs] at hb
  obtain ⟨k,rfl⟩:∃ k:Nat,b=(k:Int):=⟨b.toNat,by omega⟩
  have hk:k < N:=by omega
  have hk1:(k:Int) < (N:Int):=by omega
  have hcl:=H2.cl hk
  have hcd:=H2.cd hk
  rw [hs] at hcl hcd
  obtain ⟨cur,hty⟩:=H2.typ
  have HNG:Hid (w.heap.size ≠ g):=qh (tyne hb2 hty (by decide))
  have HNR:Hid (w.heap.size ≠ r):=qh (tyne hb2 H2.blk (by decide))
  obtain ⟨ty,sz,HTY,hagg,hsize,hld,hsr,hst⟩:=named29
  have hsr:=hsr x.d x.hd
  have HS0:Hid (w2.drew.cell? ⟨r,0,none⟩=some (.slice (some ⟨g,0,none⟩) N N)∧(loadCellsFrom ⟨g,k * 18 + 2,none⟩ 0 sz #[]).run Tryz.prog w2.drew = .ok (row x.d) w2.drew∧w2.drew.cell? ⟨g,k * 18 + 1,none⟩=some (.bool x.l)):=qh ⟨hc,hld g (k * 18 + 2) x.d x.hd w2.drew hcd,hcl⟩
  have HS1:Hid ((w2.drew.setCells w.heap.size 0 (x.d.map U)).cell? ⟨r,0,none⟩=some (.slice (some ⟨g,0,none⟩) N N)∧(loadCellsFrom ⟨g,k * 18 + 2,none⟩ 0 sz #[]).run Tryz.prog (w2.drew.setCells w.heap.size 0 (x.d.map U)) = .ok (row x.d) (w2.drew.setCells w.heap.size 0 (x.d.map U))∧(w2.drew.setCells w.heap.size 0 (x.d.map U)).cell? ⟨g,k * 18 + 1,none⟩=some (.bool x.l)):=qh ⟨(World.cell?_of_block (heap_setCells_other _ r (Ne.symm HNR.out) _ _ _)).trans hc,hld g (k * 18 + 2) x.d x.hd _ (fun j v hv=>(World.cell?_of_block (heap_setCells_other _ g (Ne.symm HNG.out) _ _ _)).trans (hcd j v hv)),(World.cell?_of_block (heap_setCells_other _ g (Ne.symm HNG.out) _ _ _)).trans hcl⟩
  have hs2:=hst w.heap.size 0 x.d x.hd w2.drew (there16 (w:=w2.drew) hb2 rfl)
  have HRR:Hid ((w2.drew.setCells w.heap.size 0 (x.d.map U)).rangeAt w.heap.size 0 (x.d.map U)):=qh (World.rangeAt_setCells_same _ _ _ _ (fun i hi=>(there16 (w:=w2.drew) hb2 rfl) i (by simpa [x.hd] using hi)))
  have HGR:Hid (w.grownBy (w2.drew.setCells w.heap.size 0 (x.d.map U)) none):=qh (grown_new (grown_trans hg2 (grown_drew (grown_refl _ _))) (Nat.le_refl _) (grown_setCells _ _ _ _))
  clear H H2 hR hs hz hg2 hb2 hb hcl hcd hty hld hst
  go_enter Tryz.func33,Tryz.ntmps33
  go_wp2_with (go_at_call 78;((with_reducible refine HHA.out.mono ?_);rintro e w3 ⟨rfl,rfl⟩))
  rw [HTY.out.1,HTY.out.2]
  refine wp_region_held_drew (S:=fun W=>W.cell? ⟨r,0,none⟩=some (.slice (some ⟨g,0,none⟩) N N)∧(loadCellsFrom ⟨g,k * 18 + 2,none⟩ 0 sz #[]).run Tryz.prog W = .ok (row x.d) W∧W.cell? ⟨g,k * 18 + 1,none⟩=some (.bool x.l)) (by kernel_rfl) HS0.out (fun hHeld=>?_)
  generalize w2.drew=W0 at hHeld hs2 HS0 HS1 HRR HGR ⊢
  refine tl 0 ?_ rfl ?_ ?_ (tl 1 ?_ rfl ?_ ?_ (tl 2 ?_ rfl ?_ ?_ (tl 3 ?_ rfl ?_ ?_ (tl 4 ?_ rfl ?_ ?_ (tl 5 ?_ rfl ?_ ?_ (tl 6 ?_ rfl ?_ ?_ (tl 7 ?_ rfl ?_ ?_ ?_)))))))
  iterate 8 (rotate_left;(next=>(try simp only [lay]);((intro w0 hSw;obtain ⟨h1,h2,h3⟩:=hSw;go_simp);try (with_reducible rfl)));next=>rfl)
  try simp only [lay]
  refine tl 8 ?_ rfl ?_ ?_ (tl 9 ?_ rfl ?_ ?_ (tl 10 ?_ rfl ?_ ?_ (tl 11 ?_ rfl ?_ ?_ (tl 12 ?_ rfl ?_ ?_ (tl 13 ?_ rfl ?_ ?_ (tl 14 ?_ rfl ?_ ?_ (tl 15 ?_ rfl ?_ ?_ ?_)))))))
  iterate 8 (rotate_left;(next=>(try simp only [lay]);((intro w0 hSw;obtain ⟨h1,h2,h3⟩:=hSw;go_simp);try (with_reducible rfl)));next=>rfl)
  try simp only [lay]
  refine rd 16 rfl fun K hK=>?_
  go_simp
  refine hK.out _ _ HS1.out (fun hHeld=>?_)
  clear hK K
  try simp only [lay]
  refine tl 17 ?_ rfl ?_ ?_ (tl 18 ?_ rfl ?_ ?_ ?_)
  iterate 2 (rotate_left;(next=>(try simp only [lay]);((intro w0 hSw;go_simp);try (with_reducible rfl)));next=>rfl)
  try simp only [lay]
  refine wpAnyH_done (by kernel_rfl) ?_ _
  clear hs2 hHeld HS0 HS1
  generalize W0.setCells w.heap.size 0 (x.d.map U)=Y at HRR HGR ⊢
  go_wp2_with fail
  exact ret_row3 rfl _ x.d x.hd _ _ w.heap.size _ _ (by rfl) (by rfl) (by rfl) HRR.out ⟨rfl,HGR.out⟩
end
end Go.Proofs.YtcoimipgilkmbaaGreatDoor.bk

namespace Go.Proofs.YtcoimipgilkmbaaGreatDoor.bk
set_option linter.unusedVariables false
set_option linter.unusedSimpArgs false
set_option maxRecDepth 1000000
set_option maxHeartbeats 16000000
open Go Go.ChangeShapes Go.WideShapes Go.ChangeAt Go.RowKit
open Go.Proofs.YtcoimipgilkmbaaGreatDoor.tt (Cfg Tab CfgAt cfg_at rdata_any U zd row tyne add_lit lt_of range_grown heap_setCells_other setCells_rest grown_setCells grown_setRow grown_new grown_drewN below_of grown_alloc grown_refl grown_trans grown_drew Sl Pool Turn Next flat flat_len flat_at heap_setCells)
theorem made {P:Program} (t e:TypeId) (i:TypeInfo) (z:Value) (n size:Nat) (ht:P.underlying t=some (.slice e)) (hi:P.info? e=some i) (hz:i.zero=some z) (h1:i.size=size) (hc:z.cells.size=size) (h0:0 < size)
  (hb:(i.bytes:Int) * (n:Int) ≤ 281474976710656) (h63:(n:Int) ≤ 9223372036854775807) :
  ∃ cs:Array Value,cs.size=n * size∧(∀ (j k:Nat) v,j < n→z.cells[k]?=some v→cs[j * size + k]?=some v)∧∀ w:World,(Instr.makeSlice t (.int .i64 (n:Int)) (.int .i64 (n:Int))).run P w = .ok (.slice (some ⟨w.heap.size,0,none⟩) n n) (w.alloc (.cells cs e)):=by
 refine ⟨madeCells z.cells (n * size),by rw [size_madeCells],fun j k v hj hk=>?_,fun w=>?_⟩
 ·have hks:k < size:=by have:=(Array.getElem?_eq_some_iff.1 hk).1;omega
  have hjk:j * size + k < n * size:=by
   have:(j + 1) * size ≤ n * size:=Nat.mul_le_mul_right _ hj
   rw [Nat.add_mul,Nat.one_mul] at this
   omega
  unfold madeCells
  rw [Array.getElem?_map,Array.getElem?_range,if_pos hjk]
  simp only [Option.map_some,hc]
  rw [Nat.mul_comm j size,Nat.mul_add_mod,Nat.mod_eq_of_lt hks,getElem!_def,hk]
 ·have hrun:=run_make (P:=P) w t e i z ht hi hz .i64 .i64 n n (by omega) (Int.le_refl _) hb h63
  rw [Int.toNat_natCast,h1] at hrun
  exact hrun
theorem infoK:(Tryz.prog.info? 133).map (fun i=>(i.zero,i.size,i.bytes))=some (some (.agg (ra (rof none))),18,68):=by kernel_rfl
theorem buildR (d:List Int) (hd:d.length=16):Array.foldl (fun (cs:Array Value) (x:Value × Nat)=>cs.setIfInBounds (2 + x.snd) x.fst) #[.bool true,.bool true,.int .u32 0,.int .u32 0,.int .u32 0,.int .u32 0,.int .u32 0,.int .u32 0,.int .u32 0,.int .u32 0,.int .u32 0,.int .u32 0,.int .u32 0,.int .u32 0,.int .u32 0,.int .u32 0,.int .u32 0,.int .u32 0] (row d).zipIdx 0 16=ra ⟨true,true,d,hd⟩:=by
 match d,hd with
 | [d0,d1,d2,d3,d4,d5,d6,d7,d8,d9,d10,d11,d12,d13,d14,d15],_=>simp [row,ra,rt]
theorem new_row (w:World) (g N:Nat) (hN:N ≤ 256) (cs:Array Value) (hs:cs.size=N * 18) (hc:∀ (j k:Nat) v,j < N→(ra (rof none))[k]?=some v→cs[j * 18 + k]?=some v) (h:w.heap[g]?=some (.cells cs 133 (0,0))) :
  Sl w 133 18 (.slice (some ⟨g,0,none⟩) N N) (tab N []).length (flat rt (tab N [])):=by
 refine .inr ⟨g,0,N,cs,by rw [tab_len],h,by rw [flat_len rt_len],by rw [tab_len];exact Nat.le_refl _,by unfold maxLen;omega,by omega,fun k y hk=>?_⟩
 have hk':k < (tab N []).length * 18:=by rw [← flat_len rt_len];exact (List.getElem?_eq_some_iff.1 hk).1
 rw [tab_len] at hk'
 have hd:k / 18 < N:=by omega
 have hm:k % 18 < 18:=Nat.mod_lt _ (by decide)
 have hkk:k / 18 * 18 + k % 18=k:=Nat.div_add_mod' k 18
 obtain ⟨u,hu⟩:∃ u,(rt (rof (look [] ((k / 18:Nat):Int))))[k % 18]?=some u:=⟨_,List.getElem?_eq_getElem (by rw [rt_len];exact hm)⟩
 have h1:=flat_at rt_len (tab N []) _ _ _ u (tab_get [] hd) hu
 rw [hkk,hk] at h1
 cases h1
 have hu':(rt (rof none))[k % 18]?=some y:=hu
 have h2:=hc (k / 18) (k % 18) y hd (by simpa [ra] using hu')
 rw [hkk] at h2
 rw [Nat.zero_add];exact h2
theorem rnew_any (c:Cfg) (N m:Nat) (w:World) (hm:c.may) (hN:c.data=(N:Int)) (hN1:N ≤ 256) (hba:c.ba=(m:Int)):Calls Tryz.prog 66 #[.agg c.cells] w fun e w'=>∃ r g,e = .returned (.pointer (some ⟨r,0,none⟩))∧RAt w' r g N m []∧w.grownBy w' none∧w.heap.size ≤ r∧w.heap.size ≤ g:=by
 obtain ⟨ik,hik,zk,sk,yk⟩:=info_parts infoK
 obtain ⟨cs,hcs,hcz,hmk⟩:=made (P:=Tryz.prog) 134 133 ik (.agg (ra (rof none))) N 18 Tryz.underlying134 hik zk sk (by rfl) (by omega) (by rw [yk];omega) (by omega)
 have HSL:Hid (∀ (w':World) (g:Nat),w'.heap[g]?=some (.cells cs 133 (0,0))→_):=qh fun w' g h=>new_row w' g N hN1 cs hcs hcz h
 have hg0:w.grownBy (w.alloc (.cells c.cells 27)) none:=grown_alloc (grown_refl _ _) _
 have HG0:=qh hg0
 have HCA:=qh (cfg_at w c)
 have HDA:Hid (∀ w',_):=qh fun w'=>rdata_any c w' hm.fits
 rw [hN] at HDA
 have HBA:=qh hba
 clear hm hN hN1 hba hik zk sk yk hcs hcz hg0
 unfold Cfg.cells at HG0 HCA HDA ⊢
 go_enter Tryz.func66,Tryz.ntmps66
 go_wp2_with fail
 obtain ⟨wb,hwb⟩:∃ wb,w.alloc (.cells #[.int .i64 c.co,.int .i64 c.se,.int .i64 c.wa,.int .i64 c.bl,.int .i64 c.lo,.int .i64 c.ba,.int .i64 c.ne,.int .i64 c.tr] 27)=wb:=⟨_,rfl⟩
 rw [hwb] at HG0 HCA ⊢
 clear hwb
 have HCC:Hid (∀ w',wb.grownBy w' none→w'.cell? ⟨w.heap.size,0,none⟩=some (.int .i64 c.co)∧w'.cell? ⟨w.heap.size,1,none⟩=some (.int .i64 c.se)∧w'.cell? ⟨w.heap.size,2,none⟩=some (.int .i64 c.wa)∧w'.cell? ⟨w.heap.size,3,none⟩=some (.int .i64 c.bl)∧w'.cell? ⟨w.heap.size,4,none⟩=some (.int .i64 c.lo)∧w'.cell? ⟨w.heap.size,5,none⟩=some (.int .i64 c.ba)∧w'.cell? ⟨w.heap.size,6,none⟩=some (.int .i64 c.ne)∧w'.cell? ⟨w.heap.size,7,none⟩=some (.int .i64 c.tr)):=qh fun w' h=>by
  obtain ⟨d0,d1,d2,d3,d4,d5,d6,d7⟩:=HCA.out.grown h
  exact ⟨d0,d1,d2,d3,d4,d5,d6,d7⟩
 refine wp_region_held_drew (S:=fun w'=>w'.cell? ⟨w.heap.size,0,none⟩=some (.int .i64 c.co)∧w'.cell? ⟨w.heap.size,1,none⟩=some (.int .i64 c.se)∧w'.cell? ⟨w.heap.size,2,none⟩=some (.int .i64 c.wa)∧w'.cell? ⟨w.heap.size,3,none⟩=some (.int .i64 c.bl)∧w'.cell? ⟨w.heap.size,4,none⟩=some (.int .i64 c.lo)∧w'.cell? ⟨w.heap.size,5,none⟩=some (.int .i64 c.ba)∧w'.cell? ⟨w.heap.size,6,none⟩=some (.int .i64 c.ne)∧w'.cell? ⟨w.heap.size,7,none⟩=some (.int .i64 c.tr)) (by kernel_rfl) (HCC.out _ (grown_drew (grown_refl _ _))) (fun hHeld=>?_)
 have HY:=qh (grown_drew (grown_refl wb none))
 generalize wb.drew=wy at hHeld HY ⊢
 refine tl 0 ?_ rfl ?_ ?_ (tl 3 ?_ rfl ?_ ?_ (tl 4 ?_ rfl ?_ ?_ ?_))
 iterate 3 (rotate_left;(next=>(try simp only [lay]);((intro w0 hSw;obtain ⟨hs0,hs1,hs2,hs3,hs4,hs5,hs6,hs7⟩:=hSw;go_simp);try (with_reducible rfl)));next=>rfl)
 try simp only [lay]
 refine rd 1 rfl fun K hK=>?_
 go_simp
 (with_reducible refine (HDA.out _).mono ?_);rintro e w3 ⟨rfl,hg3⟩
 have HG3:=qh (grown_trans HY.out hg3)
 clear hg3
 go_wp2_with fail
 refine hK.out _ _ (HCC.out _ HG3.out) (fun hHeld=>?_)
 clear hK K
 try simp only [lay]
 refine rd 2 rfl fun K hK=>?_
 have hrun:=hmk w3
 go_simp
 refine hK.out _ _ (HCC.out _ (grown_alloc HG3.out _)) (fun hHeld=>?_)
 clear hK K hrun
 try simp only [lay]
 refine tl 5 ?_ rfl ?_ ?_ ?_
 (rotate_left;(next=>((intro w0 hSw;go_simp);try (with_reducible rfl)));next=>rfl)
 try simp only [lay]
 refine rd 6 rfl fun K hK=>?_
 go_simp
 refine hK.out _ _ (HCC.out _ (grown_alloc (grown_alloc HG3.out _) _)) (fun hHeld=>?_)
 clear hK K
 try simp only [lay]
 refine tl 7 ?_ rfl ?_ ?_ ?_
 (rotate_left;(next=>((intro w0 hSw;go_simp);try (with_reducible rfl)));next=>rfl)
 try simp only [lay]
 refine wpAnyH_done (by kernel_rfl) ?_ _
 go_wp2_with fail
 go_ret
 refine ⟨w3.heap.size + 1,w3.heap.size,rfl,⟨?_,HSL.out _ _ ((Below.heap_alloc _ _ _ (by simp)).trans (heap_alloc_new _ _))⟩,grown_trans HG0.out (grown_alloc (grown_alloc HG3.out _) _),by have:=HG0.out.size;have:=HG3.out.size;omega,by have:=HG0.out.size;have:=HG3.out.size;omega⟩
 have:=heap_alloc_new (w3.alloc (.cells cs 133)) (.cells #[.slice (some ⟨w3.heap.size,0,none⟩) N N,.int .i64 c.ba] 136)
 rw [World.size_alloc] at this
 rw [← HBA.out];exact this
section
variable {w:World} {r g N m:Nat} {ns:List Bk} (H:RAt w r g N m ns)
include H
theorem rput_bad (hN:N ≤ 256) (hI:Nd ns) (hR:Rg (N:Int) ns) (b:Int) (d:List Int) (hd:d.length=16) (hb:b < 0 ∨ (N:Int) ≤ b):Calls Tryz.prog 109 #[.pointer (some ⟨r,0,none⟩),.int .i64 b,.agg (row d)] w fun e w'=>e = .returned (.int .i64 2)∧w.grownBy w' none:=by
 have hg0:w.grownBy (w.alloc (.cells (row d) 35)) none:=grown_alloc (grown_refl _ _) _
 have H1:=H.grown hg0
 have hc:=H1.c0
 have HG0:=qh hg0
 by_cases h0:b < 0
 ·clear hb H H1 hI hR hg0
  go_enter Tryz.func109,Tryz.ntmps109
  go_wp2
  go_ret
  exact ⟨rfl,HG0.out⟩
 ·have h1:(N:Int) ≤ b:=by omega
  have h2:decide ((N:Int) ≤ b)=true:=by simpa using h1
  have h3:decide (b < 0)=false:=by simp;omega
  clear hb H H1 hI hR hg0 h0 h1
  go_enter Tryz.func109,Tryz.ntmps109
  go_wp2
  go_ret
  exact ⟨rfl,HG0.out⟩
theorem rput_there (hN:N ≤ 256) (hI:Nd ns) (hR:Rg (N:Int) ns) (b:Int) (d:List Int) (hd:d.length=16) (hb:0 ≤ b∧b < (N:Int)) (hs:(look ns b).isSome=true):Calls Tryz.prog 109 #[.pointer (some ⟨r,0,none⟩),.int .i64 b,.agg (row d)] w fun e w'=>e = .returned (.int .i64 8)∧w.grownBy w' none:=by
 have hg0:w.grownBy (w.alloc (.cells (row d) 35)) none:=grown_alloc (grown_refl _ _) _
 have H1:=H.grown hg0
 have hc:=H1.c0
 have HG0:=qh hg0
 obtain ⟨k,rfl⟩:∃ k:Nat,b=(k:Int):=⟨b.toNat,by omega⟩
 have hk:k < N:=by omega
 have hci:=H1.ci hk
 rw [hs] at hci
 have hk1:(k:Int) < (N:Int):=by omega
 have h2:decide ((N:Int) ≤ (k:Int))=false:=by simp;omega
 clear hb H H1 hI hR hg0 hs
 go_enter Tryz.func109,Tryz.ntmps109
 go_wp2
 go_ret
 exact ⟨rfl,HG0.out⟩
theorem rput_full (hN:N ≤ 256) (hI:Nd ns) (hR:Rg (N:Int) ns) (b:Int) (d:List Int) (hd:d.length=16) (hb:0 ≤ b∧b < (N:Int)) (hs:(look ns b).isSome=false) (hl:ns.length=m):Calls Tryz.prog 109 #[.pointer (some ⟨r,0,none⟩),.int .i64 b,.agg (row d)] w fun e w'=>e = .returned (.int .i64 7)∧w.grownBy w' none:=by
 have hg0:w.grownBy (w.alloc (.cells (row d) 35)) none:=grown_alloc (grown_refl _ _) _
 have H1:=H.grown hg0
 have hc:=H1.c0
 have HG0:=qh hg0
 obtain ⟨k,rfl⟩:∃ k:Nat,b=(k:Int):=⟨b.toNat,by omega⟩
 have hk:k < N:=by omega
 have hci:=H1.ci hk
 rw [hs] at hci
 have hk1:(k:Int) < (N:Int):=by omega
 have h2:decide ((N:Int) ≤ (k:Int))=false:=by simp;omega
 have HLE:Hid (∀ q,_):=qh fun q=>rlen_any (H1.grown (grown_drewN (grown_refl _ none) q)) hN hI hR
 have hc1:=H1.c1
 have hlm:decide ((m:Int) ≤ (ns.length:Int))=true:=by simp;omega
 generalize (ns.length:Int)=L at HLE hlm
 clear hb H H1 hI hR hg0 hs hl
 go_enter Tryz.func109,Tryz.ntmps109
 go_wp2_with fail
 go_quiet ((go_at_call 108;exact Calls.quiet_of_same ((HLE.out _).mono fun _ _ he=>⟨he.1,he.2.symm⟩)))
 go_wp2_with fail
 go_ret
 exact ⟨rfl,grown_drewN HG0.out _⟩
theorem rput_ok (hN:N ≤ 256) (hI:Nd ns) (hR:Rg (N:Int) ns) (b:Int) (d:List Int) (hd:d.length=16) (hb:0 ≤ b∧b < (N:Int)) (hs:look ns b=none) (hl:ns.length < m):Calls Tryz.prog 109 #[.pointer (some ⟨r,0,none⟩),.int .i64 b,.agg (row d)] w fun e w'=>e = .returned (.int .i64 0)∧RAt w' r g N m (ns ++ [fresh b d hd])∧w.grownBy w' (some g):=by
 have hg0:w.grownBy (w.alloc (.cells (row d) 35)) none:=grown_alloc (grown_refl _ _) _
 have H1:=H.grown hg0
 have hc:=H1.c0
 have HG0:=qh hg0
 obtain ⟨k,rfl⟩:∃ k:Nat,b=(k:Int):=⟨b.toNat,by omega⟩
 have hk:k < N:=by omega
 have hci:=H1.ci hk
 rw [hs] at hci
 simp only [Option.isSome_none] at hci
 have hk1:(k:Int) < (N:Int):=by omega
 have h2:decide ((N:Int) ≤ (k:Int))=false:=by simp;omega
 have HLE:Hid (∀ q,_):=qh fun q=>rlen_any (H1.grown (grown_drewN (grown_refl _ none) q)) hN hI hR
 have hc1:=H1.c1
 have hlm:decide ((m:Int) ≤ (ns.length:Int))=false:=by simp;omega
 generalize (ns.length:Int)=L at HLE hlm
 have HH1:=qh H1
 have HBX:=qh (heap_alloc_new w (.cells (row d) 35))
 have HLK:Hid (∀ c:Nat,c ≠ k→look (ns ++ [fresh (k:Int) d hd]) (c:Int)=look ns (c:Int)):=qh fun c hc=>by rw [look_app];simp [fresh,show ¬ (k:Int)=(c:Int) by omega]
 have HLK2:Hid (rof (look (ns ++ [fresh (k:Int) d hd]) (k:Int))=⟨true,true,d,hd⟩):=qh (by rw [look_app,hs];simp [fresh,rof])
 clear hb H H1 hI hR hg0 hs hl
 go_enter Tryz.func109,Tryz.ntmps109
 go_wp2_with fail
 go_quiet ((go_at_call 108;exact Calls.quiet_of_same ((HLE.out _).mono fun _ _ he=>⟨he.1,he.2.symm⟩)))
 go_wp2_with fail
 obtain ⟨wq,hwq⟩:∃ W,(w.alloc (.cells (row d) 35)).drewN nq=W:=⟨_,rfl⟩
 have HGQ:Hid ((w.alloc (.cells (row d) 35)).grownBy wq none):=qh (by rw [← hwq];exact grown_drewN (grown_refl _ _) _)
 rw [hwq]
 clear hwq
 have HH:=qh (HH1.out.grown HGQ.out)
 have HB:=qh ((HGQ.out.block _ (lt_of HBX.out) (by simp)).trans HBX.out)
 obtain ⟨cur,hty⟩:=HH.out.typ
 have HNG:Hid (w.heap.size ≠ g):=qh (tyne HB.out hty (by decide))
 have HRG:Hid (r ≠ g):=qh (tyne HH.out.blk hty (by decide))
 obtain ⟨ty,sz,HTY,hagg,hsize,hld,hsr,hst⟩:=named29
 have HP:=qh (HH.out.put hk HLK.out)
 rw [HLK2.out] at HP
 have HS0:Hid (wq.drew.cell? ⟨r,0,none⟩=some (.slice (some ⟨g,0,none⟩) N N)∧(loadCellsFrom ⟨w.heap.size,0,none⟩ 0 sz #[]).run Tryz.prog wq.drew = .ok (row d) wq.drew):=qh ⟨HH.out.c0,hld _ 0 d hd wq.drew (range_row HB.out)⟩
 have HS1:Hid ((wq.drew.setCells g (k * 18) (rt ⟨true,true,d,hd⟩)).cell? ⟨r,0,none⟩=some (.slice (some ⟨g,0,none⟩) N N)∧(loadCellsFrom ⟨w.heap.size,0,none⟩ 0 sz #[]).run Tryz.prog (wq.drew.setCells g (k * 18) (rt ⟨true,true,d,hd⟩)) = .ok (row d) (wq.drew.setCells g (k * 18) (rt ⟨true,true,d,hd⟩))):=qh ⟨(World.cell?_of_block (heap_setCells_other _ r HRG.out _ _ _)).trans HH.out.c0,hld _ 0 d hd _ (fun j v hv=>(World.cell?_of_block (heap_setCells_other _ w.heap.size HNG.out _ _ _)).trans (range_row HB.out j v hv))⟩
 have hs2:=store_rat ⟨true,true,d,hd⟩ wq.drew g (k * 18) (HH.out.there hk)
 have HP':Hid (RAt (wq.drew.setCells g (k * 18) (rt ⟨true,true,d,hd⟩)) r g N m (ns ++ [fresh (k:Int) d hd])∧w.grownBy (wq.drew.setCells g (k * 18) (rt ⟨true,true,d,hd⟩)) (some g)):=qh (by
  have h1:=(HH.out.grown (grown_drew (grown_refl _ _))).put hk HLK.out
  rw [HLK2.out] at h1
  exact ⟨h1.1,h1.2.os.trans (grown_trans HG0.out HGQ.out).os,h1.2.tape.trans (grown_trans HG0.out HGQ.out).tape,h1.2.output.trans (grown_trans HG0.out HGQ.out).output,Nat.le_trans (grown_trans HG0.out HGQ.out).size h1.2.size,fun i hi hn=>(h1.2.block i (Nat.lt_of_lt_of_le hi (grown_trans HG0.out HGQ.out).size) hn).trans ((grown_trans HG0.out HGQ.out).block i hi (by simp))⟩)
 clear HP hld hst hsr hc hc1 hci hlm h2 hty HLE
 rw [HTY.out.1]
 refine wp_region_held_drew (S:=fun W=>W.cell? ⟨r,0,none⟩=some (.slice (some ⟨g,0,none⟩) N N)∧(loadCellsFrom ⟨w.heap.size,0,none⟩ 0 sz #[]).run Tryz.prog W = .ok (row d) W) (by kernel_rfl) HS0.out (fun hHeld=>?_)
 generalize wq.drew=W0 at hHeld hs2 HS0 HS1 HP' ⊢
 refine tl 0 ?_ rfl ?_ ?_ (tl 1 ?_ rfl ?_ ?_ (tl 2 ?_ rfl ?_ ?_ (tl 3 ?_ rfl ?_ ?_ (tl 4 ?_ rfl ?_ ?_ (tl 5 ?_ rfl ?_ ?_ ?_)))))
 iterate 6 (rotate_left;(next=>(try simp only [lay]);((intro w0 hSw;obtain ⟨h1,h2⟩:=hSw;go_simp);try (with_reducible rfl)));next=>rfl)
 try simp only [lay]
 refine tl 6 ?_ rfl ?_ ?_ ?_
 (rotate_left;(next=>((intro w0 hSw;have hb1:=buildR d hd;have hb2:=ra_size ⟨true,true,d,hd⟩;have hb4:(row d).size=16:=(by simp [row,hd]);go_simp);try (with_reducible rfl)));next=>rfl)
 try simp only [lay]
 refine tl 7 ?_ rfl ?_ ?_ ?_
 (rotate_left;(next=>((intro w0 hSw;obtain ⟨h1,h2⟩:=hSw;go_simp);try (with_reducible rfl)));next=>rfl)
 try simp only [lay]
 have hsz:=ra_size ⟨true,true,d,hd⟩
 refine rd 8 rfl fun K hK=>?_
 go_simp
 refine hK.out _ _ HS1.out (fun hHeld=>?_)
 clear hK K
 try simp only [lay]
 refine wpAnyH_done (by kernel_rfl) ?_ _
 clear hs2 hHeld HS0 HS1
 generalize W0.setCells g (k * 18) (rt ⟨true,true,d,hd⟩)=Y at HP' ⊢
 go_wp2_with fail
 go_ret
 exact ⟨rfl,HP'.out.1,HP'.out.2⟩
theorem rput_any (hN:N ≤ 256) (hI:Nd ns) (hR:Rg (N:Int) ns) (hm:ns.length ≤ m) (b:Int) (d:List Int) (hd:d.length=16):Calls Tryz.prog 109 #[.pointer (some ⟨r,0,none⟩),.int .i64 b,.agg (row d)] w fun e w'=>e = .returned (.int .i64 (putE (N:Int) m ns b))∧RAt w' r g N m (puts (N:Int) m ns b d hd)∧w.grownBy w' (some g):=by
 have up:∀ w',w.grownBy w' none→w.grownBy w' (some g):=fun w' h=>⟨h.os,h.tape,h.output,h.size,fun k hk _=>h.block k hk (by simp)⟩
 unfold puts
 by_cases h1:b < 0 ∨ (N:Int) ≤ b
 ·have he:putE (N:Int) m ns b=2:=by unfold putE;rw [if_pos h1]
  rw [he,if_neg (by decide)]
  exact (rput_bad H hN hI hR b d hd h1).mono fun e w' ⟨a,hg⟩=>⟨a,H.grown hg,up w' hg⟩
 ·by_cases h2:(look ns b).isSome=true
  ·have he:putE (N:Int) m ns b=8:=by unfold putE;rw [if_neg h1,if_pos h2]
   rw [he,if_neg (by decide)]
   exact (rput_there H hN hI hR b d hd (by omega) h2).mono fun e w' ⟨a,hg⟩=>⟨a,H.grown hg,up w' hg⟩
  ·by_cases h3:ns.length=m
   ·have he:putE (N:Int) m ns b=7:=by unfold putE;rw [if_neg h1,if_neg h2,if_pos h3]
    rw [he,if_neg (by decide)]
    exact (rput_full H hN hI hR b d hd (by omega) (by simpa using h2) h3).mono fun e w' ⟨a,hg⟩=>⟨a,H.grown hg,up w' hg⟩
   ·have he:putE (N:Int) m ns b=0:=by unfold putE;rw [if_neg h1,if_neg h2,if_neg h3]
    rw [he,if_pos rfl]
    exact rput_ok H hN hI hR b d hd (by omega) (by simpa using h2) (by omega)
end
end Go.Proofs.YtcoimipgilkmbaaGreatDoor.bk
