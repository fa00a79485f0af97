/-
 What the end of an ask makes of the document's home: contract. No condition but what it names.
-/
import Derived.Test.YtenhdijbcdkfbaaGreatDoorTl
import Derived.Test.YtenhdijbcdkfbaaGreatDoorRhI
namespace Go.Proofs.YtenhdijbcdkfbaaGreatDoor.hh
set_option linter.unusedVariables false
set_option linter.unusedSimpArgs false
set_option maxRecDepth 1000000
set_option maxHeartbeats 16000000
open Go Go.ChangeShapes Go.WideShapes Go.ChangeAt Go.RowKit
open Go.Proofs.YtenhdijbcdkfbaaGreatDoor.tt (Nt Cfg fits net bare zd usd uses coreOf ok_ends MapAt mput mdel ik NSl flat na nt zn grown_alloc grown_refl grown_trans tyne lt_of)
open Go.Proofs.YtenhdijbcdkfbaaGreatDoor.en (En gets back asked asks free ask_parts may_parts ea)
open Go.Proofs.YtenhdijbcdkfbaaGreatDoor.mm (wi wo ones wo_lt)
theorem store_jmid {w:World} {ops:Array Oper} {rest:List Oper} {a:Act} {Q:Exit→Act→World→Prop} {dst:Option Tmp} {ty:TypeId} {pos:String} {after:Array Edge} (j:Option Jb) (A:Array Value) (hA:ja j=A) (x y:Tmp) (g off:Nat) (hx:a.eval (.tmp x) = .pointer (some ⟨g,off,none⟩)) (hy:a.eval (.tmp y) = .agg A) (ht:w.there g off 29)
  (h:wpList Tryz.prog ops Q rest (a.put dst undef) (w.setCells g off (jt j))):wpList Tryz.prog ops Q (⟨dst,.store 63 (.tmp x) (.tmp y),ty,pos,after,none⟩ :: rest) a w:=by
 subst hA
 exact wpList_store_mid rfl 63 (.tmp x) (.tmp y) rfl g off (ja j) hx hy (by rw [ja_size];exact ht) (jinfoa j) (ja_one j) h
theorem ja_none:ja none=#[.bool false,.int .u8 0,.int .i64 0,.int .i64 0,.int .i64 0,.int .u64 0,.int .u8 0,.bool false,.bool false,.int .u32 0,.int .u32 0,.int .u32 0,.int .u32 0,.int .u32 0,.int .u32 0,.int .u32 0,.int .u32 0,.int .u32 0,.int .u32 0,.int .u32 0,.int .u32 0,.int .u32 0,.int .u32 0,.int .u32 0,.int .u32 0,.int .u32 0,.bool false,.bool false,.int .u64 0]:=rfl
structure REnd (w0 w:World) (h:Nat) (c:Cfg) (b:Nat) (F Fk:Fr) (R:Hm × List Nt) (Hk:Hm) (pre rest:List Nt) (u:Value) (out:List Nt):Prop where
 home:RefAt w h c Fk { Hk with wt:=pre ++ rest }
 sl:NSl w u out
 did:RDid w0 w h F Fk
 fresh:∀ k,u.ownBlock=some k→w0.heap.size ≤ k∧¬ Fk.own h k∧Fk.wv.ownBlock ≠ some k
 few:(pre ++ rest).length ≤ 65536
 len:out.length + 33 * rest.length ≤ 3000000
 goal:R=((run b Hk pre rest).1,out ++ (run b Hk pre rest).2)
theorem fin_set {c:Cfg} {H:Hm} (I:Inv c H) (b:Nat):Inv c { H with jb:=H.jb.set b none }:=I.job b none fun j e=>by cases e
section
variable {w0 w w':World} {h:Nat} {c:Cfg} {b:Nat} {F Fk:Fr} {R:Hm × List Nt} {Hk:Hm} {pre rest:List Nt} {u:Value} {out:List Nt} {n:Nt}
theorem REnd.grown (E:REnd w0 w h c b F Fk R Hk pre rest u out) (g:w.grownBy w' none):REnd w0 w' h c b F Fk R Hk pre rest u out:=
 ⟨E.home.grown g,E.sl.of_block fun k e=>g.block k (E.sl.lt k e) (by simp),E.did.trans (RDid.of_grown h Fk g),E.fresh,E.few,E.len,E.goal⟩
theorem REnd.pass (E:REnd w0 w h c b F Fk R Hk pre (n :: rest) u out) (hj:jbOf Hk b=none) (hb:n.b ≠ (b:Int)):REnd w0 w h c b F Fk R Hk (pre ++ [n]) rest u out:=by
 refine ⟨by rw [List.append_assoc];exact E.home,E.sl,E.did,E.fresh,by have:=E.few;simp at this ⊢;omega,by have:=E.len;simp at this ⊢;omega,?_⟩
 rw [E.goal]
 conv=>lhs;unfold run
 rw [hj,if_neg (by simp),if_neg hb]
theorem REnd.cut (E:REnd w0 w h c b F Fk R Hk pre (n :: rest) u out) {w6:World} {v2:Value} (g:w.grownBy w6 none) (hs:NSl w6 v2 (pre ++ rest)) (hv:∀ k,v2.ownBlock=some k→w.heap.size ≤ k) :
  RefAt (w6.setCell ⟨h,11,none⟩ v2) h c { Fk with wv:=v2 } { Hk with wt:=pre ++ rest }∧RDid w0 (w6.setCell ⟨h,11,none⟩ v2) h F { Fk with wv:=v2 }∧NSl (w6.setCell ⟨h,11,none⟩ v2) u out ∧
   (∀ k,u.ownBlock=some k→w0.heap.size ≤ k∧¬ Fk.own h k∧v2.ownBlock ≠ some k)∧(∀ i,i ≠ h→(w6.setCell ⟨h,11,none⟩ v2).heap[i]?=w6.heap[i]?):=by
 have A6:=E.home.grown g
 have hI:Inv c { Hk with wt:=pre ++ rest }:=E.home.inv.waits _ (fun m hm=>E.home.inv.wait m (by
  rcases List.mem_append.1 hm with e | e
  ·exact List.mem_append.2 (.inl e)
  ·exact List.mem_append.2 (.inr (List.mem_cons_of_mem _ e))))
 obtain ⟨hA,hG⟩:=A6.setWt hs hI
 have set':∀ i,i ≠ h→(w6.setCell ⟨h,11,none⟩ v2).heap[i]?=w6.heap[i]?:=fun i hi=>Below.heap_setCell _ _ _ i hi
 refine ⟨hA,?_,?_,?_,set'⟩
 ·have d6:=E.did.trans (RDid.of_grown h Fk g)
  exact ⟨hG.os.trans d6.os,hG.tape.trans d6.tape,hG.output.trans d6.output,Nat.le_trans d6.size hG.size,fun i hi hn=>(set' i (fun e=>hn (.inl e))).trans (d6.block i hi hn),d6.mb,d6.mv,d6.ev,d6.jv,.inr (fun k hk=>Nat.le_trans E.did.size (hv k hk))⟩
 ·exact E.sl.of_block fun k e=>(set' k (fun e'=>(E.fresh k e).2.1 (.inl e'))).trans (g.block k (E.sl.lt k e) (by simp))
 ·exact fun k e=>⟨(E.fresh k e).1,(E.fresh k e).2.1,fun e2=>by have h1:=hv k e2;have h2:=E.sl.lt k e;omega⟩
theorem REnd.go (E:REnd w0 w h c b F Fk R Hk pre (n :: rest) u out) (hj:jbOf Hk b=none) (hb:n.b=(b:Int)) {v2 v4:Value} {w7 w8 w9:World} (D7:RDid w0 w7 h F { Fk with wv:=v2 }) (S8:NSl w8 u out)
  (fr:∀ k,u.ownBlock=some k→w0.heap.size ≤ k∧¬ Fk.own h k∧v2.ownBlock ≠ some k)
  (A8:RefAt w8 h c { Fk with wv:=v2 } (begin1 { Hk with wt:=pre ++ rest } n).1) (D8:RDid w7 w8 h { Fk with wv:=v2 } { Fk with wv:=v2 }) (g9:w8.grownBy w9 u.ownBlock) (S9:NSl w9 v4 (out ++ (begin1 { Hk with wt:=pre ++ rest } n).2)) (nx:tt.Next w8 w9 u v4) :
  REnd w0 w9 h c b F { Fk with wv:=v2 } R (begin1 Hk n).1 pre rest v4 (out ++ (begin1 Hk n).2):=by
 rw [begin1_with] at A8 S9
 have D:=D7.trans D8
 have hu:∀ k,u.ownBlock=some k→∃ cur,w8.heap[k]?=some (.cells cur 45 (0,0)):=fun k e=>S8.type k e
 refine ⟨?_,S9,?_,fun k hk=>?_,?_,?_,?_⟩
 ·refine A8.keep fun i hi ho=>g9.block i hi (fun e=>?_)
  rcases ho with ho | ho | ho
  ·exact (fr i e.symm).2.1 ho
  ·obtain ⟨cur,hc⟩:=hu i e.symm
   subst ho
   exact tyne hc A8.mem.blk (by decide) rfl
  ·exact (fr i e.symm).2.2 ho
 ·exact ⟨g9.os.trans D.os,g9.tape.trans D.tape,g9.output.trans D.output,Nat.le_trans D.size g9.size,fun i hi hn=>(g9.block i (Nat.lt_of_lt_of_le hi D.size) (fun e=>by have:=(fr i e.symm).1;omega)).trans (D.block i hi hn),D.mb,D.mv,D.ev,D.jv,D.next⟩
 ·rcases nx with e | e
  ·exact fr k (e ▸ hk)
  ·have h8:=e k hk
   exact ⟨Nat.le_trans D.size h8,fun ho=>by have:=A8.own_lt ho;omega,fun hw=>by have:=A8.wt.lt k hw;omega⟩
 ·have:=E.few;simp at this ⊢;omega
 ·have h1:=E.len
  have h2:=begin1_len Hk n
  simp at h1 ⊢
  omega
 ·rw [E.goal]
  conv=>lhs;unfold run
  rw [hj,if_neg (by simp),if_pos hb]
  simp [List.append_assoc]
theorem REnd.stop (E:REnd w0 w h c b F Fk R Hk pre rest u out) (hs:rest=[] ∨ (jbOf Hk b).isSome=true):R=({ Hk with wt:=pre ++ rest },out):=by
 rw [E.goal]
 rcases hs with rfl | hs
 ·unfold run;simp
 ·rw [run_busy b Hk pre rest hs];simp
end
section
variable {w:World} {h:Nat} {c:Cfg} {F:Fr} {H:Hm}
theorem rend_any (A:RefAt w h c F H) (b:Nat) (hb:b < c.data.toNat) (hl:H.wt.length ≤ 65536):Calls Tryz.prog 49 #[.pointer (some ⟨h,0,none⟩),.int .i64 (b:Int)] w fun e w'=>∃ F' v,e = .returned v ∧
  RefAt w' h c F' (fin H b).1∧NSl w' v (fin H b).2∧RDid w w' h F F'∧∀ k,v.ownBlock=some k→w.heap.size ≤ k∧¬ F'.own h k∧F'.wv.ownBlock ≠ some k:=by
 have hbj:b < H.jb.length:=by rw [A.inv.lj];exact hb
 obtain ⟨gj,oj,cj,hjv,hjf,hjc⟩:=A.jobAt hbj
 obtain ⟨hAs,hgs⟩:=A.setJob hjv hbj none (fin_set A.inv b)
 have hd1:RDid w (w.setCells gj (oj + b * 29) (jt none)) h F F:=RDid.of_own hgs (fun i e=> .inr (.inr (.inr (by cases e;rw [hjv];rfl))))
 obtain ⟨R,hR⟩:∃ R,R=fin H b:=⟨_,rfl⟩
 have hR2:R=((run b { H with jb:=H.jb.set b none } [] H.wt).1,[] ++ (run b { H with jb:=H.jb.set b none } [] H.wt).2):=hR
 rw [← hR]
 have HE:=qh (show REnd w (w.setCells gj (oj + b * 29) (jt none)) h c b F F R { H with jb:=H.jb.set b none } [] H.wt (.slice none 0 0) [] from ⟨hAs,tt.Sl.nil _ _ _,hd1,(fun k e=>by cases e),hl,(by simp;omega),hR2⟩)
 have HTH:=qh (there_jt hjf hjc)
 have HBD:=qh hb
 have p10:w.cell? ⟨h,10,none⟩=some (.slice (some ⟨gj,oj,none⟩) H.jb.length cj):=by rw [A.parts.2.2.1,hjv]
 obtain ⟨q,hq⟩:∃ q,q=H.jb.length:=⟨_,rfl⟩
 rw [← hq] at p10
 have hlt:(b:Int) < (q:Int):=by omega
 have hle:(0:Int) ≤ (b:Int):=by omega
 have HQ:Hid (q=c.data.toNat):=qh (hq.trans A.inv.lj)
 clear A hbj hjf hjc hAs hgs hd1 hR hR2 hq hb hl
 go_enter Tryz.func49,Tryz.ntmps49
 go_wp2_with ((with_reducible refine store_jmid none _ ja_none _ _ gj (oj + b * 29) ?_ ?_ HTH.out ?_);(rfl);(rfl);(obtain ⟨ws,hws⟩:∃ ws,w.setCells gj (oj + b * 29) (jt none)=ws:=⟨_,rfl⟩;rw [hws] at HE ⊢;clear hws p10))
 go_loopw [5,6] (fun v i wq=>∃ (u:Value) (pre rest:List Nt) (Hk:Hm) (Fk:Fr) (out:List Nt),v=u∧i = .int .i64 (pre.length:Int)∧REnd w wq h c b F Fk R Hk pre rest u out) (fun _ i wq=>match wq.cell? ⟨h,11,none⟩ with | some (.slice _ n _)=>n - (intOf i).toNat | _=>0)
 case atStart=>exact ⟨_,[],H.wt,_,F,[],rfl,rfl,HE.out⟩
 case round=>
  obtain ⟨u,pre,rest,Hk,Fk,out,hu,rfl,hE⟩:=hrel
  have hE':=hE
  obtain ⟨av,cv,hfv⟩:=hE'.sl.form
  have HE:=qh hE
  obtain ⟨lo,hlo⟩:∃ q,q=out.length:=⟨_,rfl⟩
  rw [← hlo] at hfv
  have HLO:=qh hlo
  clear hE' hE hlo
  subst hfv
  subst hu
  obtain ⟨aw,cw,hwv⟩:=HE.out.home.wt.form
  obtain ⟨lw,hlw⟩:∃ q,q=(pre ++ rest).length:=⟨_,rfl⟩
  have HWV:Hid (Fk.wv = .slice aw lw cw):=qh (by rw [hlw];exact hwv)
  have HLW:=qh hlw
  clear hwv hlw
  have c11:wr.cell? ⟨h,11,none⟩=some (.slice aw lw cw):=by rw [HE.out.home.parts.2.2.2,HWV.out]
  have hbj:b < Hk.jb.length:=by
   have:=HE.out.home.inv.lj
   have h2:Hk.jb.length=c.data.toNat:=this
   rw [h2];exact HBD.out
  obtain ⟨g1,o1,c1,hv1,_,hc1⟩:=HE.out.home.jobAt (b:=b) hbj
  have c10:wr.cell? ⟨h,10,none⟩=some (.slice (some ⟨g1,o1,none⟩) q c1):=by
   rw [HE.out.home.parts.2.2.1,hv1]
   have h2:Hk.jb.length=c.data.toNat:=HE.out.home.inv.lj
   rw [HQ.out,← h2]
  have j0:wr.cell? ⟨g1,o1 + b * 29,none⟩=some (.bool (jbOf Hk b).isSome):=hc1 0 _ (jt_is _)
  clear hc1 hv1 hbj
  obtain ⟨k,hk⟩:∃ k,k=pre.length:=⟨_,rfl⟩
  rw [← hk]
  have HK:=qh hk
  clear hk
  cases hrest:rest with
  | nil=>
   have hge:¬ (k:Int) < (lw:Int):=by have h1:=HLW.out;have h2:=HK.out;rw [hrest] at h1;simp at h1;omega
   have HST:=qh (HE.out.stop (.inl hrest))
   clear hrest
   go_wp2_with fail
   go_ret
   rw [HST.out]
   exact ⟨Fk,_,rfl,HE.out.home,HE.out.sl,HE.out.did,HE.out.fresh⟩
  | cons n rest'=>
   have hlt2:(k:Int) < (lw:Int):=by have h1:=HLW.out;have h2:=HK.out;rw [hrest] at h1;simp at h1;omega
   have hk0:(0:Int) ≤ (k:Int):=by omega
   subst hrest
   cases hj:(jbOf Hk b).isSome with
   | true=>
    rw [hj] at j0
    have HST:=qh (HE.out.stop (.inr hj))
    clear hj
    go_wp2_with fail
    go_ret
    rw [HST.out]
    exact ⟨Fk,_,rfl,HE.out.home,HE.out.sl,HE.out.did,HE.out.fresh⟩
   | false=>
    rw [hj] at j0
    have HJN:Hid (jbOf Hk b=none):=qh (by
     cases h:jbOf Hk b with
     | none=>rfl
     | some j=>rw [h] at hj;cases hj)
    have HWS:Hid (NSl wr (.slice aw lw cw) (pre ++ n :: rest')):=qh (by have:=HE.out.home.wt;rw [HWV.out] at this;exact this)
    obtain ⟨g,off,rfl,hml,hrn⟩:=tt.nsl_at HWS.out k n (by rw [HK.out];simp)
    have HRN:=qh hrn
    have hlb:(k:Int) ≤ 65536:=by have h1:=HE.out.few;have h2:=HK.out;simp at h1;omega
    clear hrn hj hml
    by_cases hb:n.b=(b:Int)
    ·have hne:(n.b != (b:Int))=false:=by simpa using hb
     have HB:=qh hb
     clear hb
     obtain ⟨i0,hi,hz0,hz1,hz2⟩:=info_parts tt.infoN
     have hcw:lw ≤ cw∧cw ≤ maxLen:=by
      rcases HWS.out with ⟨e,_⟩ | ⟨g',o',c',cur,e,_,_,h2,h3,_⟩
      ·cases e
      ·cases e;exact ⟨h2,h3⟩
     have hcl:cw ≤ 9223372036854775807:=by have:=hcw.2;unfold maxLen at this;omega
     have hlw:lw ≤ 65536:=by have h1:=HE.out.few;have h2:=HLW.out;simp at h1 h2;omega
     have hkl1:k + 1 ≤ lw:=by omega
     have hkc:k ≤ cw:=by omega
     have hkc1:k + 1 ≤ cw:=by omega
     have hw:IntKind.i64.wrap ((k:Int) + 1)=((k:Int) + 1):=IntWalk.i64_in _ (by omega)
     have ht:((k:Int) + 1).toNat=k + 1:=by omega
     have hk1:0 ≤ (k:Int) + 1:=by omega
     have hk2:(k:Int) + 1 ≤ (lw:Int):=by omega
     have HSW:Hid (tt.Sl wr 45 24 (.slice (some ⟨g,off,none⟩) lw cw) lw (flat nt (pre ++ n :: rest'))):=qh (by
      have h1:=HWS.out
      rw [HLW.out] at h1 ⊢
      exact h1)
     have HHD:=qh (tt.head_sl HSW.out k (by omega) cw hkc (Nat.le_refl _))
     have hers:(pre ++ n :: rest').eraseIdx k=pre ++ rest':=by rw [HK.out,List.eraseIdx_append_of_length_le (Nat.le_refl _)];simp
     have HER:Hid ((flat nt (pre ++ n :: rest')).take (k * 24) ++ (flat nt (pre ++ n :: rest')).drop ((k + 1) * 24)=flat nt (pre ++ rest')):=qh (by
      rw [tt.flat_erase tt.nt_len _ k (by rw [← HLW.out];omega),hers])
     have HLN:Hid ((pre ++ rest').length=k + (lw - (k + 1))):=qh (by have h1:=HLW.out;have h2:=HK.out;simp at h1 ⊢;omega)
     have HAN:Hid (Asks c n):=qh (HE.out.home.inv.wait n (by simp))
     have HLB:Hid (lo ≤ 3000000):=qh (by have h1:=HE.out.len;have h2:=HLO.out;omega)
     have HLW2:Hid (lw ≤ 65536∧k + 1 ≤ lw):=qh ⟨hlw,hkl1⟩
     have HHL:Hid (h < wr.heap.size):=qh HE.out.home.lt
     obtain ⟨LL,hLL⟩:∃ l,l=pre ++ n :: rest':=⟨_,rfl⟩
     rw [← hLL] at HSW HHD HER
     clear hcw hers hLL hlw
     go_wp2_with (first
      | ((with_reducible refine tt.load_na n _ g (off + k * 24) ?_ HRN.out ?_);(rfl))
      | ((with_reducible refine tt.store_new n _ _ _ ?_ ?_ rfl ?_);(rfl);(rfl);(obtain ⟨BN,hBN⟩:∃ B,wr.heap.size=B:=⟨_,rfl⟩;obtain ⟨wn,hwn⟩:∃ x,wr.alloc (.cells (na n) 45)=x:=⟨_,rfl⟩;have HGN:Hid (wr.grownBy wn none):=qh (by rw [← hwn];exact grown_alloc (grown_refl _ _) _);have HBN:Hid (wn.heap[BN]?=some (.cells (na n) 45 (0,0))):=qh (by rw [← hwn,← hBN];exact heap_alloc_new _ _);have HBL:Hid (wr.heap.size ≤ BN):=qh (Nat.le_of_eq hBN);have n3:=tt.cell_at (tt.range_of HBN.out) 3 _ rfl;have c11':=HGN.out.cell c11 (by simp);rw [hwn,hBN];clear hwn hBN))
      | ((with_reducible refine tt.append_sl 24 45 24 i0 (.agg (na zn)) 112 _ _ Tryz.underlying24 hi hz0 hz1 hz2 tt.zn_cells (.slice none 0 0) 0 [] ?_ (tt.Sl.nil _ _ _) (.slice (some ⟨g,off,none⟩) k cw) k ((flat nt LL).take (k * 24)) ?_ ((HHD.out.grown HGN.out).src Tryz.underlying24 (fun u hu=>tt.nflat_one LL u (List.mem_of_mem_take hu))) ?_ ?_ ?_);(rfl);(rfl);(have:=HLW2.out;unfold maxLen;omega);(have:=HLW2.out;omega);(intro v1 w5 hsl1 hgr1 hnx1;rw [Nat.zero_add,List.nil_append] at hsl1;have hg5:wn.grownBy w5 none:=hgr1;have HG5:=qh hg5;have HS1:=qh hsl1;have HV1:Hid (∀ k,v1.ownBlock=some k→wn.heap.size ≤ k):=qh (hnx1.ge (Nat.le_refl _) (fun k e=>by simp [Value.ownBlock] at e));have c115:=hg5.cell c11' (by simp);obtain ⟨A,hA,hsrc,_,_⟩:=tt.tail_sl (P:=Tryz.prog) ((HSW.out.grown HGN.out).grown hg5) (k + 1) hkl1 Tryz.underlying24 (tt.nflat_one LL);have HSRC:=qh hsrc;clear hsl1 hgr1 hg5 hnx1 hsrc))
      | ((with_reducible refine tt.append_sl 24 45 24 i0 (.agg (na zn)) 112 _ _ Tryz.underlying24 hi hz0 hz1 hz2 tt.zn_cells v1 k ((flat nt LL).take (k * 24)) ?_ HS1.out (.slice (some A) (lw - (k + 1)) (cw - (k + 1))) (lw - (k + 1)) ((flat nt LL).drop ((k + 1) * 24)) ?_ HSRC.out ?_ ?_ ?_);(rfl);(rfl);(have:=HLW2.out;unfold maxLen;omega);(have:=HLW2.out;omega);(intro v2 w6 hsl2 hgr2 hnx2;have hg6:=grown_newR HG5.out HV1.out hgr2;have HG6:=qh (grown_trans HGN.out hg6);have hv2:∀ k,v2.ownBlock=some k→wr.heap.size ≤ k:=fun k e=>Nat.le_trans HGN.out.size (hnx2.ge HG5.out.size HV1.out k e);have hns:NSl w6 v2 (pre ++ rest'):=(by have:=hsl2;rw [HER.out,← HLN.out] at this;exact this);have HC:=qh (HE.out.cut HG6.out hns hv2);have HB7:Hid ((w6.setCell ⟨h,11,none⟩ v2).heap[BN]?=some (.cells (na n) 45 (0,0))):=qh ((HC.out.2.2.2.2 BN (by have:=HHL.out;have:=HBL.out;omega)).trans ((hg6.block _ (lt_of HBN.out) (by simp)).trans HBN.out));have c116:=HG6.out.cell c11 (by simp);have f116:=(HE.out.home.grown HG6.out).frozen 11;obtain ⟨ad2,cap2,rfl⟩:=hsl2.form;clear hsl2 hgr2 hnx2 hg6 hv2 hns))
      | ((with_reducible refine tt.load_nt n _ BN ?_ (tt.range_of HB7.out) ?_);(rfl))
      | (go_at_call 48;((with_reducible refine (rbegin_any HC.out.1 n HAN.out).mono ?_);rintro e w8 ⟨v3,rfl,hA8,hS8,hD8,hf8⟩;have HU8:=qh (HC.out.2.2.1.of_block fun k e=>hD8.block k (HC.out.2.2.1.lt k e) (fun o=>(HC.out.2.2.2.1 k e).2.1 o));have HU9:Hid (tt.Sl w8 45 24 (.slice av lo cv) lo (flat nt out)):=qh (by have h1:=HU8.out;rw [HLO.out] at h1 ⊢;exact h1);have HA8:=qh hA8;have HS8:=qh hS8;have HD8:=qh hD8;clear hA8 hS8 hD8 hf8;have HNB:Hid ((begin1 { Hk with wt:=pre ++ rest' } n).2.length ≤ 33):=qh (begin1_len _ _)))
      | ((with_reducible refine tt.append_sl 24 45 24 i0 (.agg (na zn)) 112 _ _ Tryz.underlying24 hi hz0 hz1 hz2 tt.zn_cells (.slice av lo cv) lo (flat nt out) ?_ HU9.out v3 (begin1 { Hk with wt:=pre ++ rest' } n).2.length (flat nt (begin1 { Hk with wt:=pre ++ rest' } n).2) ?_ (HS8.out.src Tryz.underlying24 (tt.nflat_one _)) ?_ ?_ ?_);(rfl);(rfl);(have:=HLB.out;have:=HNB.out;unfold maxLen;omega);(have:=HLB.out;have:=HNB.out;omega);(intro v4 w9 hsl9 hgr9 hnx9;have hs9:NSl w9 v4 (out ++ (begin1 { Hk with wt:=pre ++ rest' } n).2):=(by show tt.Sl _ _ 24 v4 _ (flat nt _);rw [tt.flat_append,List.length_append,← HLO.out];exact hsl9);have HE9:=qh (HE.out.go HJN.out HB.out HC.out.2.1 HU8.out HC.out.2.2.2.1 HA8.out HD8.out hgr9 hs9 hnx9);have c119:=HE9.out.home.parts.2.2.2;clear hsl9 hgr9 hnx9 hs9)))
     go_roundw
     case rel=>exact ⟨_,pre,rest',(begin1 Hk n).1,_,_,rfl,by rw [← HK.out],HE9.out⟩
     case measure=>
      simp only [c11,c119,intOf]
      omega
    ·have hne:(n.b != (b:Int))=true:=by simpa using hb
     have HB:=qh hb
     clear hb
     go_wp2_with (first
      | ((with_reducible refine tt.load_na n _ g (off + k * 24) ?_ HRN.out ?_);(rfl))
      | ((with_reducible refine tt.store_new n _ _ _ ?_ ?_ rfl ?_);(rfl);(rfl);(obtain ⟨BN,hBN⟩:∃ B,wr.heap.size=B:=⟨_,rfl⟩;obtain ⟨wn,hwn⟩:∃ x,wr.alloc (.cells (na n) 45)=x:=⟨_,rfl⟩;have HGN:Hid (wr.grownBy wn none):=qh (by rw [← hwn];exact grown_alloc (grown_refl _ _) _);have HBN:Hid (wn.heap[BN]?=some (.cells (na n) 45 (0,0))):=qh (by rw [← hwn,← hBN];exact heap_alloc_new _ _);have n3:=tt.cell_at (tt.range_of HBN.out) 3 _ rfl;have c11':=HGN.out.cell c11 (by simp);rw [hwn,hBN];clear hwn hBN)))
     go_roundw
     case rel=>exact ⟨_,pre ++ [n],rest',Hk,Fk,out,rfl,by have:=HK.out;rw [List.length_append,← this];go_num,(HE.out.pass HJN.out HB.out).grown HGN.out⟩
     case measure=>
      simp only [c11,c11',intOf]
      omega
end
end Go.Proofs.YtenhdijbcdkfbaaGreatDoor.hh
