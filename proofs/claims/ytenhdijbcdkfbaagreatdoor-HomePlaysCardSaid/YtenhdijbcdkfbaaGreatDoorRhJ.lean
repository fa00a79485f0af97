/-
 What Take of the document's home answers, what goes out, the home behind it, where nothing ends: contract. No condition.
-/
import Derived.Test.YtenhdijbcdkfbaaGreatDoorTl
import Derived.Test.YtenhdijbcdkfbaaGreatDoorRhI
import Derived.Test.YtenhdijbcdkfbaaGreatDoorRhE
namespace Go.Proofs.YtenhdijbcdkfbaaGreatDoor.hh
set_option linter.unusedVariables false
set_option linter.unusedSimpArgs false
set_option maxRecDepth 1000000
set_option maxHeartbeats 16000000
open Go Go.ChangeShapes Go.WideShapes Go.ChangeAt Go.RowKit
open Go.Proofs.YtenhdijbcdkfbaaGreatDoor.tt (Nt Cfg fits net bare zd usd uses coreOf ok_ends MapAt mput mdel ik NSl flat na nt zn grown_alloc grown_refl grown_trans tyne lt_of)
open Go.Proofs.YtenhdijbcdkfbaaGreatDoor.en (En gets back asked asks free ask_parts may_parts ea)
open Go.Proofs.YtenhdijbcdkfbaaGreatDoor.mm (wi wo ones wo_lt)
section
variable {w:World} {h:Nat} {c:Cfg} {F:Fr} {H:Hm}
theorem rtake_bad (A:RefAt w h c F H) (n:Nt) (hr:ready c H n ≠ 0):Calls Tryz.prog 14 #[.pointer (some ⟨h,0,none⟩),.agg (na n)] w fun e w'=>∃ F' v,e = .returned (.tuple #[v,.int .i64 (take c H n).2.2])∧RefAt w' h c F' (take c H n).1∧NSl w' v (take c H n).2.1∧RDid w w' h F F'∧∀ k,v.ownBlock=some k→w.heap.size ≤ k∧¬ F'.own h k∧F'.wv.ownBlock ≠ some k:=by
 obtain ⟨wb,hwb⟩:∃ wb,w.alloc (.cells (na n) 45)=wb:=⟨_,rfl⟩
 have hgb:w.grownBy wb none:=by rw [← hwb];exact grown_alloc (grown_refl _ _) _
 have hbx:wb.heap[w.heap.size]?=some (.cells (na n) 45 (0,0)):=by rw [← hwb];exact heap_alloc_new _ _
 have HAB:=qh (A.grown hgb)
 have HRY:=qh (rready_any HAB.out n)
 have HX:Hid (∀ w',wb.grownBy w' none→w'.heap[w.heap.size]?=some (.cells (na n) 45 (0,0))):=qh fun w' h'=>(h'.block _ (lt_of hbx) (by simp)).trans hbx
 have HR:Hid (∀ w',wb.grownBy w' none→w'.rangeAt w.heap.size 0 (nt n)):=qh fun w' h'=>tt.range_of (HX.out w' h')
 have HG:=qh hgb
 have ht:take c H n=(H,[],ready c H n):=by unfold take;rw [if_pos hr]
 rw [ht]
 obtain ⟨q,hq⟩:∃ q,q=ready c H n:=⟨_,rfl⟩
 rw [← hq] at HRY hr ⊢
 have e0:(q != 0)=true:=by simpa using hr
 clear A hbx hgb hq hr ht
 go_enter Tryz.func14,Tryz.ntmps14
 go_wp2_with (first
  | ((with_reducible refine tt.load_nt n _ w.heap.size ?_ (HR.out _ (by first | exact grown_refl _ _ | exact HG1.out)) ?_);(rfl))
  | (go_at_call 11;((with_reducible refine HRY.out.mono ?_);rintro e w1 ⟨rfl,hg1⟩;have HG1:=qh hg1;have hr1:=HR.out w1 hg1;have n0:=tt.cell_at hr1 0 _ rfl;have n3:=tt.cell_at hr1 3 _ rfl;have HA1:=qh (HAB.out.grown hg1);clear hg1 hr1)))
 go_ret2
 exact ⟨F,_,rfl,HA1.out,tt.Sl.nil _ _ _,RDid.of_grown h F (grown_trans HG.out HG1.out),fun k hk=>by simp [Value.ownBlock] at hk⟩
theorem rtake_new (A:RefAt w h c F H) (n:Nt) (hr:ready c H n=0) (hk:n.k=1 ∨ n.k=2 ∨ n.k=3) (hj:(jbOf H n.b.toNat).isSome=false):Calls Tryz.prog 14 #[.pointer (some ⟨h,0,none⟩),.agg (na n)] w fun e w'=>∃ F' v,e = .returned (.tuple #[v,.int .i64 (take c H n).2.2])∧RefAt w' h c F' (take c H n).1∧NSl w' v (take c H n).2.1∧RDid w w' h F F'∧∀ k,v.ownBlock=some k→w.heap.size ≤ k∧¬ F'.own h k∧F'.wv.ownBlock ≠ some k:=by
 obtain ⟨wb,hwb⟩:∃ wb,w.alloc (.cells (na n) 45)=wb:=⟨_,rfl⟩
 have hgb:w.grownBy wb none:=by rw [← hwb];exact grown_alloc (grown_refl _ _) _
 have hbx:wb.heap[w.heap.size]?=some (.cells (na n) 45 (0,0)):=by rw [← hwb];exact heap_alloc_new _ _
 have HAB:=qh (A.grown hgb)
 have HRY:=qh (rready_any HAB.out n)
 have HX:Hid (∀ w',wb.grownBy w' none→w'.heap[w.heap.size]?=some (.cells (na n) 45 (0,0))):=qh fun w' h'=>(h'.block _ (lt_of hbx) (by simp)).trans hbx
 have HR:Hid (∀ w',wb.grownBy w' none→w'.rangeAt w.heap.size 0 (nt n)):=qh fun w' h'=>tt.range_of (HX.out w' h')
 have HG:=qh hgb
 obtain ⟨hf1,hf2⟩:=ready_fits hr
 rw [hr] at HRY
 obtain ⟨b,hbn⟩:∃ b:Nat,n.b=(b:Int):=⟨n.b.toNat,by have:=(blk_lt hf1).1;omega⟩
 have HBT:n.b.toNat=b:=by omega
 have HNB:=qh hbn
 have hna:net n.k=0:=(net_asks hf1.1.1).2 hk
 have hask:Asks c n:=⟨hf1,hf2,hna⟩
 rw [HBT] at hj
 have HNT:=qh (fun w'=>tt.rnet_any n.k w')
 rw [hna] at HNT
 have hbj:b < H.jb.length:=by rw [A.inv.lj,← HBT];exact (blk_lt hf1).2
 obtain ⟨gj,oj,cj,hjv,_,_⟩:=A.jobAt hbj
 have HJ:Hid (∀ w',wb.grownBy w' none→w'.cell? ⟨h,10,none⟩=some (.slice (some ⟨gj,oj,none⟩) H.jb.length cj)∧w'.cell? ⟨gj,oj + b * 29,none⟩=some (.bool (jbOf H b).isSome)):=qh fun w' h'=>by
  have hA:=HAB.out.grown h'
  obtain ⟨g',o',c',e',_,hc'⟩:=hA.jobAt hbj
  rw [hjv] at e';cases e'
  exact ⟨by rw [hA.parts.2.2.1,hjv],hc' 0 _ (jt_is _)⟩
 rw [hj] at HJ
 obtain ⟨q,hq⟩:∃ q,q=H.jb.length:=⟨_,rfl⟩
 have hlt:(b:Int) < (q:Int):=by omega
 have hle:(0:Int) ≤ (b:Int):=by omega
 rw [← hq] at HJ
 have HTK:Hid (take c H n=((begin1 H n).1,(begin1 H n).2,0)):=qh (by
  unfold take
  rw [if_neg (fun e=>e hr),if_pos hna,HBT,hj]
  rfl)
 have HH:Hid (∀ W,RefAt W h c F H→_):=qh fun W hA=>rbegin_any hA n hask
 have HWL:Hid (∀ k,F.wv.ownBlock=some k→k < w.heap.size):=qh fun k e=>A.wt.lt k e
 rw [HTK.out]
 clear A hbx hgb hr hf1 hf2 hk hbn HBT hna hask hj hbj hjv hq
 go_enter Tryz.func14,Tryz.ntmps14
 go_wp2_with (first
  | ((with_reducible refine tt.load_nt n _ w.heap.size ?_ (HR.out _ (by first | exact grown_refl _ _ | exact HG1.out)) ?_);(rfl))
  | (go_at_call 11;((with_reducible refine HRY.out.mono ?_);rintro e w1 ⟨rfl,hg1⟩;have HG1:=qh hg1;have hr1:=HR.out w1 hg1;have n0:=tt.cell_at hr1 0 _ rfl;have n3:=tt.cell_at hr1 3 _ rfl;rw [HNB.out] at n3;obtain ⟨j1,j2⟩:=HJ.out w1 hg1;have HA1:=qh (HAB.out.grown hg1);clear hg1 hr1))
  | (go_at_call 38;((with_reducible refine (HNT.out _).mono ?_);rintro e w2 ⟨rfl,rfl⟩))
  | (go_at_call 48;((with_reducible refine (HH.out _ HA1.out).mono ?_);rintro e w3 ⟨v,rfl,hA3,hS3,hD3,hf3⟩;have HA3:=qh hA3;have HS3:=qh hS3;have HD3:=qh hD3;have HF3:=qh hf3;clear hA3 hS3 hD3 hf3)))
 go_ret2
 have hg:=grown_trans HG.out HG1.out
 exact ⟨F,v,rfl,HA3.out,HS3.out,(RDid.of_grown h F hg).trans HD3.out,fun k hk=>⟨Nat.le_trans hg.size (HF3.out k hk),fun e=>by have h1:=HAB.out.own_lt e;have h2:=HG1.out.size;have h3:=HF3.out k hk;omega,fun e=>by have h1:=HWL.out k e;have h2:=hg.size;have h3:=HF3.out k hk;omega⟩⟩
end
end Go.Proofs.YtenhdijbcdkfbaaGreatDoor.hh
