/-
 What Take of a home answers, what goes out, the home behind it: contract. Condition: the tables of kinds and of de Bruijn's product lie in their variables as the program's text has them.
 A home of a law's own, and what the laws' small functions answer: contracts. No condition but what each theorem names.
 works says yes: the walk. No condition but that the tables lie in their variables.
-/
import Derived.Test.YtenhdijbcdkfbaaGreatDoorTl
import Derived.Test.YtenhdijbcdkfbaaGreatDoorHcK
import Derived.Test.YtenhdijbcdkfbaaGreatDoorHn
import Derived.Test.YtenhdijbcdkfbaaGreatDoorPh
namespace Go.Proofs.YtenhdijbcdkfbaaGreatDoor.hh
set_option linter.unusedVariables false
set_option linter.unusedSimpArgs false
set_option maxRecDepth 1000000
set_option maxHeartbeats 16000000
open Go Go.ChangeShapes Go.WideShapes Go.ChangeAt Go.RowKit
open Go.Proofs.YtenhdijbcdkfbaaGreatDoor.tt (Nt Cfg fits net bare zd usd uses coreOf ok_ends MapAt mput mdel ik NPool NSl Turn flat na nt zn grown_alloc grown_refl grown_trans tyne lt_of)
open Go.Proofs.YtenhdijbcdkfbaaGreatDoor.en (En gets back asked asks free ask_parts may_parts ea)
open Go.Proofs.YtenhdijbcdkfbaaGreatDoor.mm (wi wo ones wo_lt)
section
variable {w:World} {h:Nat} {c:Cfg} {F:Ft} {H:Hm}
theorem hear_any (A:HomeAt w h c F H) (n:Nt) (hf:fits c n∧n.t=-1) (hw:Word n) (hT:mm.Tab w) (hk:n.k=9 ∨ n.k=10) (j:Jb) (hj:jbOf H n.b.toNat=some j) (hjd:j.d=false):Calls Tryz.prog 44 #[.pointer (some ⟨h,0,none⟩),.agg (na n)] w fun e w'=>∃ F' v,e = .returned v ∧
  HomeAt w' h c F' (heard H n).1∧NSl w' v (heard H n).2∧Did w w' F F'∧∀ k,v.ownBlock=some k→w.heap.size ≤ k∧¬ F'.own k:=by
 rcases hk with hk | hk
 ·cases hh:n.h with
  | true=>
   by_cases hy:(noted j n).w=0
   ·cases hr:(noted j n).r with
    | true=>exact hear_has_refd A n hf hw hT j hj hjd hk hh hy hr
    | false=>exact hear_has_ans A n hf hw hT j hj hjd hk hh hy hr
   ·exact hear_has_left A n hf hw hT j hj hjd hk hh hy
  | false=>
   by_cases hy:(noted j n).w=0
   ·cases hr:(noted j n).r with
    | true=>exact hear_non_refd A n hf hw hT j hj hjd hk hh hy hr
    | false=>exact hear_non_ans A n hf hw hT j hj hjd hk hh hy hr
   ·exact hear_non_left A n hf hw hT j hj hjd hk hh hy
 ·have hh:n.h=false:=by
   cases h:n.h with
   | false=>rfl
   | true=>
    have h1:=hf.1.1.1
    have:=((tt.rule_ok n h1 hf.1.1.2.1).1 hf.1.1).h369 h
    omega
  by_cases hy:(noted j n).w=0
  ·cases hr:(noted j n).r with
   | true=>exact hear_ref_refd A n hf hw hT j hj hjd hk hh hy hr
   | false=>exact hear_ref_ans A n hf hw hT j hj hjd hk hh hy hr
  ·exact hear_ref_left A n hf hw hT j hj hjd hk hh hy
theorem ready_ack {n:Nt} (hr:ready c H n=0) (hk:n.k=9 ∨ n.k=10) (A:HomeAt w h c F H):∃ j,jbOf H n.b.toNat=some j∧j.d=false:=by
 obtain ⟨hf1,hf2⟩:=ready_fits hr
 unfold ready at hr
 rw [if_neg (fun (e:¬ fits c n ∨ n.t ≠ -1)=>e.elim (fun e=>e hf1) (fun e=>e hf2)),if_neg (fun e=>by have:=(net_asks hf1.1.1).1 e;omega)] at hr
 cases hj:jbOf H n.b.toNat with
 | none=>rw [hj] at hr;cases hr
 | some j=>
  rw [hj] at hr
  dsimp only at hr
  rw [if_neg (by omega)] at hr
  by_cases hd:j.d=false∧j.w.testBit n.f.toNat=true
  ·exact ⟨j,rfl,hd.1⟩
  ·rw [if_neg hd] at hr;cases hr
theorem take_heard {n:Nt} (hr:ready c H n=0) (hk:n.k=9 ∨ n.k=10) {j:Jb} (hj:jbOf H n.b.toNat=some j):take c H n=((heard H n).1,(heard H n).2,0):=by
 obtain ⟨hf1,hf2⟩:=ready_fits hr
 unfold take heard
 rw [if_neg (fun e=>e hr),if_neg (fun e=>by have:=(net_asks hf1.1.1).1 e;omega),if_neg (by omega),hj]
 dsimp only
 split
 ·rfl
 ·split <;> rfl
theorem take_done {n:Nt} (hr:ready c H n=0) (hk:n.k=11) (hf1:fits c n):take c H n=((fin H n.b.toNat).1,(fin H n.b.toNat).2,0):=by
 unfold take
 rw [if_neg (fun e=>e hr),if_neg (fun e=>by have:=(net_asks hf1.1.1).1 e;omega),if_pos hk]
theorem take_bad (A:HomeAt w h c F H) (n:Nt) (hw:Word n) (hT:mm.Tab w) (hK:tt.TabK w) (hr:ready c H n ≠ 0):Calls Tryz.prog 13 #[.pointer (some ⟨h,0,none⟩),.agg (na n)] w fun e w'=>∃ F' v,e = .returned (.tuple #[v,.int .i64 (take c H n).2.2])∧HomeAt w' h c F' (take c H n).1∧NSl w' v (take c H n).2.1∧Did w w' F F'∧∀ k,v.ownBlock=some k→w.heap.size ≤ k∧¬ F'.own k:=by
 obtain ⟨wb,hwb⟩:∃ wb,w.alloc (.cells (na n) 45)=wb:=⟨_,rfl⟩
 have hgb:w.grownBy wb none:=by rw [← hwb];exact grown_alloc (grown_refl _ _) _
 have hbx:wb.heap[w.heap.size]?=some (.cells (na n) 45 (0,0)):=by rw [← hwb];exact heap_alloc_new _ _
 have HAB:=qh (A.grown hgb)
 have HRY:=qh (ready_any HAB.out (hK.grown hgb) n)
 have HX:Hid (∀ w',wb.grownBy w' none→w'.heap[w.heap.size]?=some (.cells (na n) 45 (0,0))):=qh fun w' h'=>(h'.block _ (lt_of hbx) (by simp)).trans hbx
 have HR:Hid (∀ w',wb.grownBy w' none→w'.rangeAt w.heap.size 0 (nt n)):=qh fun w' h'=>tt.range_of (HX.out w' h')
 have HG:=qh hgb
 have HTT:=qh (mtab_grown hT hgb)
 have ht:take c H n=(H,[],ready c H n):=by unfold take;rw [if_pos hr]
 rw [ht]
 obtain ⟨q,hq⟩:∃ q,q=ready c H n:=⟨_,rfl⟩
 rw [← hq] at HRY hr ⊢
 have e0:(q != 0)=true:=by simpa using hr
 clear A hbx hgb hT hK hq hr ht
 go_enter Tryz.func13,Tryz.ntmps13
 go_wp2_with (first
  | ((with_reducible refine tt.load_nt n _ w.heap.size ?_ (HR.out _ (by first | exact grown_refl _ _ | exact HG1.out)) ?_);(rfl))
  | (go_at_call 10;((with_reducible refine HRY.out.mono ?_);rintro e w1 ⟨rfl,hg1⟩;have HG1:=qh hg1;have hr1:=HR.out w1 hg1;have n0:=tt.cell_at hr1 0 _ rfl;have n3:=tt.cell_at hr1 3 _ rfl;have HA1:=qh (HAB.out.grown hg1);have HT1:=qh (mtab_grown HTT.out hg1);clear hg1 hr1)))
 go_ret2
 exact ⟨F,_,rfl,HA1.out,tt.Sl.nil _ _ _,Did.of_grown F (grown_trans HG.out HG1.out),fun k hk=>by simp [Value.ownBlock] at hk⟩
theorem take_ack9 (A:HomeAt w h c F H) (n:Nt) (hw:Word n) (hT:mm.Tab w) (hK:tt.TabK w) (hr:ready c H n=0) (hk:n.k=9):Calls Tryz.prog 13 #[.pointer (some ⟨h,0,none⟩),.agg (na n)] w fun e w'=>∃ F' v,e = .returned (.tuple #[v,.int .i64 (take c H n).2.2])∧HomeAt w' h c F' (take c H n).1∧NSl w' v (take c H n).2.1∧Did w w' F F'∧∀ k,v.ownBlock=some k→w.heap.size ≤ k∧¬ F'.own k:=by
 obtain ⟨wb,hwb⟩:∃ wb,w.alloc (.cells (na n) 45)=wb:=⟨_,rfl⟩
 have hgb:w.grownBy wb none:=by rw [← hwb];exact grown_alloc (grown_refl _ _) _
 have hbx:wb.heap[w.heap.size]?=some (.cells (na n) 45 (0,0)):=by rw [← hwb];exact heap_alloc_new _ _
 have HAB:=qh (A.grown hgb)
 have HRY:=qh (ready_any HAB.out (hK.grown hgb) n)
 have HX:Hid (∀ w',wb.grownBy w' none→w'.heap[w.heap.size]?=some (.cells (na n) 45 (0,0))):=qh fun w' h'=>(h'.block _ (lt_of hbx) (by simp)).trans hbx
 have HR:Hid (∀ w',wb.grownBy w' none→w'.rangeAt w.heap.size 0 (nt n)):=qh fun w' h'=>tt.range_of (HX.out w' h')
 have HG:=qh hgb
 have HTT:=qh (mtab_grown hT hgb)
 obtain ⟨hf1,hf2⟩:=ready_fits hr
 rw [hr] at HRY
 have e9:(n.k == 9)=true:=by rw [hk];rfl
 obtain ⟨j,hj,hjd⟩:=ready_ack hr (.inl hk) A
 have HTK:Hid (take c H n=((heard H n).1,(heard H n).2,0)):=qh (take_heard hr (by omega) hj)
 have HH:Hid (∀ W,HomeAt W h c F H→mm.Tab W→_):=qh fun W hA hT=>hear_any hA n ⟨hf1,hf2⟩ hw hT (by omega) j hj hjd
 rw [HTK.out]
 clear A hbx hgb hT hK hr hw hf1 hf2 hk hj hjd
 go_enter Tryz.func13,Tryz.ntmps13
 go_wp2_with (first
  | ((with_reducible refine tt.load_nt n _ w.heap.size ?_ (HR.out _ (by first | exact grown_refl _ _ | exact HG1.out)) ?_);(rfl))
  | (go_at_call 10;((with_reducible refine HRY.out.mono ?_);rintro e w1 ⟨rfl,hg1⟩;have HG1:=qh hg1;have hr1:=HR.out w1 hg1;have n0:=tt.cell_at hr1 0 _ rfl;have n3:=tt.cell_at hr1 3 _ rfl;have HA1:=qh (HAB.out.grown hg1);have HT1:=qh (mtab_grown HTT.out hg1);clear hg1 hr1))
  | (go_at_call 44;((with_reducible refine (HH.out w1 HA1.out HT1.out).mono ?_);rintro e w2 ⟨F2,v,rfl,hA2,hS2,hD2,hf2⟩;have HA2:=qh hA2;have HS2:=qh hS2;have HD2:=qh hD2;have HF2:=qh hf2;clear hA2 hS2 hD2 hf2)))
 go_ret2
 have hg:=grown_trans HG.out HG1.out
 exact ⟨F2,v,rfl,HA2.out,HS2.out,(Did.of_grown F hg).trans HD2.out,fun k hk=>⟨Nat.le_trans hg.size (HF2.out k hk).1,(HF2.out k hk).2⟩⟩
theorem take_ack10 (A:HomeAt w h c F H) (n:Nt) (hw:Word n) (hT:mm.Tab w) (hK:tt.TabK w) (hr:ready c H n=0) (hk:n.k=10):Calls Tryz.prog 13 #[.pointer (some ⟨h,0,none⟩),.agg (na n)] w fun e w'=>∃ F' v,e = .returned (.tuple #[v,.int .i64 (take c H n).2.2])∧HomeAt w' h c F' (take c H n).1∧NSl w' v (take c H n).2.1∧Did w w' F F'∧∀ k,v.ownBlock=some k→w.heap.size ≤ k∧¬ F'.own k:=by
 obtain ⟨wb,hwb⟩:∃ wb,w.alloc (.cells (na n) 45)=wb:=⟨_,rfl⟩
 have hgb:w.grownBy wb none:=by rw [← hwb];exact grown_alloc (grown_refl _ _) _
 have hbx:wb.heap[w.heap.size]?=some (.cells (na n) 45 (0,0)):=by rw [← hwb];exact heap_alloc_new _ _
 have HAB:=qh (A.grown hgb)
 have HRY:=qh (ready_any HAB.out (hK.grown hgb) n)
 have HX:Hid (∀ w',wb.grownBy w' none→w'.heap[w.heap.size]?=some (.cells (na n) 45 (0,0))):=qh fun w' h'=>(h'.block _ (lt_of hbx) (by simp)).trans hbx
 have HR:Hid (∀ w',wb.grownBy w' none→w'.rangeAt w.heap.size 0 (nt n)):=qh fun w' h'=>tt.range_of (HX.out w' h')
 have HG:=qh hgb
 have HTT:=qh (mtab_grown hT hgb)
 obtain ⟨hf1,hf2⟩:=ready_fits hr
 rw [hr] at HRY
 have e9:(n.k == 9)=false:=by rw [hk];rfl
 have e10:(n.k == 10)=true:=by rw [hk];rfl
 obtain ⟨j,hj,hjd⟩:=ready_ack hr (.inr hk) A
 have HTK:Hid (take c H n=((heard H n).1,(heard H n).2,0)):=qh (take_heard hr (by omega) hj)
 have HH:Hid (∀ W,HomeAt W h c F H→mm.Tab W→_):=qh fun W hA hT=>hear_any hA n ⟨hf1,hf2⟩ hw hT (by omega) j hj hjd
 rw [HTK.out]
 clear A hbx hgb hT hK hr hw hf1 hf2 hk hj hjd
 go_enter Tryz.func13,Tryz.ntmps13
 go_wp2_with (first
  | ((with_reducible refine tt.load_nt n _ w.heap.size ?_ (HR.out _ (by first | exact grown_refl _ _ | exact HG1.out)) ?_);(rfl))
  | (go_at_call 10;((with_reducible refine HRY.out.mono ?_);rintro e w1 ⟨rfl,hg1⟩;have HG1:=qh hg1;have hr1:=HR.out w1 hg1;have n0:=tt.cell_at hr1 0 _ rfl;have n3:=tt.cell_at hr1 3 _ rfl;have HA1:=qh (HAB.out.grown hg1);have HT1:=qh (mtab_grown HTT.out hg1);clear hg1 hr1))
  | (go_at_call 44;((with_reducible refine (HH.out w1 HA1.out HT1.out).mono ?_);rintro e w2 ⟨F2,v,rfl,hA2,hS2,hD2,hf2⟩;have HA2:=qh hA2;have HS2:=qh hS2;have HD2:=qh hD2;have HF2:=qh hf2;clear hA2 hS2 hD2 hf2)))
 go_ret2
 have hg:=grown_trans HG.out HG1.out
 exact ⟨F2,v,rfl,HA2.out,HS2.out,(Did.of_grown F hg).trans HD2.out,fun k hk=>⟨Nat.le_trans hg.size (HF2.out k hk).1,(HF2.out k hk).2⟩⟩
theorem take_done' (A:HomeAt w h c F H) (n:Nt) (hw:Word n) (hT:mm.Tab w) (hK:tt.TabK w) (hr:ready c H n=0) (hk:n.k=11):Calls Tryz.prog 13 #[.pointer (some ⟨h,0,none⟩),.agg (na n)] w fun e w'=>∃ F' v,e = .returned (.tuple #[v,.int .i64 (take c H n).2.2])∧HomeAt w' h c F' (take c H n).1∧NSl w' v (take c H n).2.1∧Did w w' F F'∧∀ k,v.ownBlock=some k→w.heap.size ≤ k∧¬ F'.own k:=by
 obtain ⟨wb,hwb⟩:∃ wb,w.alloc (.cells (na n) 45)=wb:=⟨_,rfl⟩
 have hgb:w.grownBy wb none:=by rw [← hwb];exact grown_alloc (grown_refl _ _) _
 have hbx:wb.heap[w.heap.size]?=some (.cells (na n) 45 (0,0)):=by rw [← hwb];exact heap_alloc_new _ _
 have HAB:=qh (A.grown hgb)
 have HRY:=qh (ready_any HAB.out (hK.grown hgb) n)
 have HX:Hid (∀ w',wb.grownBy w' none→w'.heap[w.heap.size]?=some (.cells (na n) 45 (0,0))):=qh fun w' h'=>(h'.block _ (lt_of hbx) (by simp)).trans hbx
 have HR:Hid (∀ w',wb.grownBy w' none→w'.rangeAt w.heap.size 0 (nt n)):=qh fun w' h'=>tt.range_of (HX.out w' h')
 have HG:=qh hgb
 have HTT:=qh (mtab_grown hT hgb)
 obtain ⟨hf1,hf2⟩:=ready_fits hr
 rw [hr] at HRY
 have e9:(n.k == 9)=false:=by rw [hk];rfl
 have e10:(n.k == 10)=false:=by rw [hk];rfl
 have e11:(n.k == 11)=true:=by rw [hk];rfl
 obtain ⟨b,hbn⟩:∃ b:Nat,n.b=(b:Int):=⟨n.b.toNat,by have:=(blk_lt hf1).1;omega⟩
 have hb:b < c.data.toNat:=by have:=(blk_lt hf1).2;omega
 have HBT:n.b.toNat=b:=by omega
 have HTK:Hid (take c H n=((fin H b).1,(fin H b).2,0)):=qh (by rw [← HBT];exact take_done hr hk hf1)
 have HNB:=qh hbn
 have HH:Hid (∀ W,HomeAt W h c F H→mm.Tab W→_):=qh fun W hA hT=>end_any hA b hb hT
 rw [HTK.out]
 clear A hbx hgb hT hK hr hw hf1 hf2 hk hbn hb HBT
 go_enter Tryz.func13,Tryz.ntmps13
 go_wp2_with (first
  | ((with_reducible refine tt.load_nt n _ w.heap.size ?_ (HR.out _ (by first | exact grown_refl _ _ | exact HG1.out)) ?_);(rfl))
  | (go_at_call 10;((with_reducible refine HRY.out.mono ?_);rintro e w1 ⟨rfl,hg1⟩;have HG1:=qh hg1;have hr1:=HR.out w1 hg1;have n0:=tt.cell_at hr1 0 _ rfl;have n3:=tt.cell_at hr1 3 _ rfl;rw [HNB.out] at n3;have HA1:=qh (HAB.out.grown hg1);have HT1:=qh (mtab_grown HTT.out hg1);clear hg1 hr1))
  | (go_at_call 45;((with_reducible refine (HH.out w1 HA1.out HT1.out).mono ?_);rintro e w2 ⟨F2,v,rfl,hA2,hS2,hD2,hf2⟩;have HA2:=qh hA2;have HS2:=qh hS2;have HD2:=qh hD2;have HF2:=qh hf2;clear hA2 hS2 hD2 hf2)))
 go_ret2
 have hg:=grown_trans HG.out HG1.out
 exact ⟨F2,v,rfl,HA2.out,HS2.out,(Did.of_grown F hg).trans HD2.out,fun k hk=>⟨Nat.le_trans hg.size (HF2.out k hk).1,(HF2.out k hk).2⟩⟩
theorem take_new (A:HomeAt w h c F H) (n:Nt) (hw:Word n) (hT:mm.Tab w) (hK:tt.TabK w) (hr:ready c H n=0) (hk:n.k=1 ∨ n.k=2 ∨ n.k=3) (hj:(jbOf H n.b.toNat).isSome=false):Calls Tryz.prog 13 #[.pointer (some ⟨h,0,none⟩),.agg (na n)] w fun e w'=>∃ F' v,e = .returned (.tuple #[v,.int .i64 (take c H n).2.2])∧HomeAt w' h c F' (take c H n).1∧NSl w' v (take c H n).2.1∧Did w w' F F'∧∀ k,v.ownBlock=some k→w.heap.size ≤ k∧¬ F'.own k:=by
 obtain ⟨wb,hwb⟩:∃ wb,w.alloc (.cells (na n) 45)=wb:=⟨_,rfl⟩
 have hgb:w.grownBy wb none:=by rw [← hwb];exact grown_alloc (grown_refl _ _) _
 have hbx:wb.heap[w.heap.size]?=some (.cells (na n) 45 (0,0)):=by rw [← hwb];exact heap_alloc_new _ _
 have HAB:=qh (A.grown hgb)
 have HRY:=qh (ready_any HAB.out (hK.grown hgb) n)
 have HX:Hid (∀ w',wb.grownBy w' none→w'.heap[w.heap.size]?=some (.cells (na n) 45 (0,0))):=qh fun w' h'=>(h'.block _ (lt_of hbx) (by simp)).trans hbx
 have HR:Hid (∀ w',wb.grownBy w' none→w'.rangeAt w.heap.size 0 (nt n)):=qh fun w' h'=>tt.range_of (HX.out w' h')
 have HG:=qh hgb
 have HTT:=qh (mtab_grown hT hgb)
 obtain ⟨hf1,hf2⟩:=ready_fits hr
 rw [hr] at HRY
 have e9:(n.k == 9)=false:=by simp;omega
 have e10:(n.k == 10)=false:=by simp;omega
 have e11:(n.k == 11)=false:=by simp;omega
 obtain ⟨b,hbn⟩:∃ b:Nat,n.b=(b:Int):=⟨n.b.toNat,by have:=(blk_lt hf1).1;omega⟩
 have HBT:n.b.toNat=b:=by omega
 have HNB:=qh hbn
 have hna:net n.k=0:=(net_asks hf1.1.1).2 hk
 have hask:Asks c n:=⟨hf1,hf2,hna⟩
 rw [HBT] at hj
 have HBZ:Hid (∀ W,HomeAt W h c F H→_):=qh fun W hA=>busy_any hA b
 rw [hj] at HBZ
 have HTK:Hid (take c H n=((begin1 H n).1,(begin1 H n).2,0)):=qh (by
  unfold take
  rw [if_neg (fun e=>e hr),if_pos hna,HBT,hj]
  rfl)
 have HH:Hid (∀ W,HomeAt W h c F H→mm.Tab W→_):=qh fun W hA hT=>begin_any hA n hask hT
 rw [HTK.out]
 clear A hbx hgb hT hK hr hw hf1 hf2 hk hbn HBT hna hask hj
 go_enter Tryz.func13,Tryz.ntmps13
 go_wp2_with (first
  | ((with_reducible refine tt.load_nt n _ w.heap.size ?_ (HR.out _ (by first | exact grown_refl _ _ | exact HG1.out)) ?_);(rfl))
  | (go_at_call 10;((with_reducible refine HRY.out.mono ?_);rintro e w1 ⟨rfl,hg1⟩;have HG1:=qh hg1;have hr1:=HR.out w1 hg1;have n0:=tt.cell_at hr1 0 _ rfl;have n3:=tt.cell_at hr1 3 _ rfl;rw [HNB.out] at n3;have HA1:=qh (HAB.out.grown hg1);have HT1:=qh (mtab_grown HTT.out hg1);clear hg1 hr1))
  | (go_at_call 18;((with_reducible refine (HBZ.out w1 HA1.out).mono ?_);rintro e w2 ⟨rfl,hg2⟩;have HG2:=qh (grown_trans HG1.out hg2);have HA2:=qh (HA1.out.grown hg2);have HT2:=qh (mtab_grown HT1.out hg2);have hr2:=qh (HR.out w2 HG2.out);clear hg2))
  | ((with_reducible refine tt.load_nt n _ w.heap.size ?_ hr2.out ?_);(rfl))
  | (go_at_call 47;((with_reducible refine (HH.out w2 HA2.out HT2.out).mono ?_);rintro e w3 ⟨v,rfl,hA3,hS3,hD3,hf3⟩;have HA3:=qh hA3;have HS3:=qh hS3;have HD3:=qh hD3;have HF3:=qh hf3;clear hA3 hS3 hD3 hf3)))
 go_ret2
 have hg:=grown_trans HG.out HG2.out
 exact ⟨F,v,rfl,HA3.out,HS3.out,(Did.of_grown F hg).trans HD3.out,fun k hk=>⟨Nat.le_trans hg.size (HF3.out k hk),fun e=>by have h1:=HAB.out.own_lt e;have h2:=HG2.out.size;have h3:=HF3.out k hk;omega⟩⟩
theorem take_wait (A:HomeAt w h c F H) (n:Nt) (hw:Word n) (hT:mm.Tab w) (hK:tt.TabK w) (hr:ready c H n=0) (hk:n.k=1 ∨ n.k=2 ∨ n.k=3) (hj:(jbOf H n.b.toNat).isSome=true):Calls Tryz.prog 13 #[.pointer (some ⟨h,0,none⟩),.agg (na n)] w fun e w'=>∃ F' v,e = .returned (.tuple #[v,.int .i64 (take c H n).2.2])∧HomeAt w' h c F' (take c H n).1∧NSl w' v (take c H n).2.1∧Did w w' F F'∧∀ k,v.ownBlock=some k→w.heap.size ≤ k∧¬ F'.own k:=by
 obtain ⟨wb,hwb⟩:∃ wb,w.alloc (.cells (na n) 45)=wb:=⟨_,rfl⟩
 have hgb:w.grownBy wb none:=by rw [← hwb];exact grown_alloc (grown_refl _ _) _
 have hbx:wb.heap[w.heap.size]?=some (.cells (na n) 45 (0,0)):=by rw [← hwb];exact heap_alloc_new _ _
 have HAB:=qh (A.grown hgb)
 have HRY:=qh (ready_any HAB.out (hK.grown hgb) n)
 have HX:Hid (∀ w',wb.grownBy w' none→w'.heap[w.heap.size]?=some (.cells (na n) 45 (0,0))):=qh fun w' h'=>(h'.block _ (lt_of hbx) (by simp)).trans hbx
 have HR:Hid (∀ w',wb.grownBy w' none→w'.rangeAt w.heap.size 0 (nt n)):=qh fun w' h'=>tt.range_of (HX.out w' h')
 have HG:=qh hgb
 have HTT:=qh (mtab_grown hT hgb)
 obtain ⟨hf1,hf2⟩:=ready_fits hr
 rw [hr] at HRY
 have e9:(n.k == 9)=false:=by simp;omega
 have e10:(n.k == 10)=false:=by simp;omega
 have e11:(n.k == 11)=false:=by simp;omega
 obtain ⟨b,hbn⟩:∃ b:Nat,n.b=(b:Int):=⟨n.b.toNat,by have:=(blk_lt hf1).1;omega⟩
 have HBT:n.b.toNat=b:=by omega
 have HNB:=qh hbn
 have hna:net n.k=0:=(net_asks hf1.1.1).2 hk
 have hask:Asks c n:=⟨hf1,hf2,hna⟩
 rw [HBT] at hj
 have HBZ:Hid (∀ W,HomeAt W h c F H→_):=qh fun W hA=>busy_any hA b
 rw [hj] at HBZ
 have hrl:=room_le A.inv.may
 have hroom:H.wt.length < room c:=by
  unfold ready at hr
  rw [if_neg (fun e=>e.elim (fun e=>e hf1) (fun e=>e hf2)),if_pos hna,HBT,hj] at hr
  by_cases hx:roomH c ≤ (H.wt.length:Int)
  ·rw [if_pos ⟨rfl,hx⟩] at hr;cases hr
  ·omega
 have HTK:Hid (take c H n=({ H with wt:=H.wt ++ [n] },[],0)):=qh (by
  unfold take
  rw [if_neg (fun e=>e hr),if_pos hna,HBT,hj,if_pos rfl])
 have HIN:Hid (Inv c { H with wt:=H.wt ++ [n] }):=qh (A.inv.waits _ fun m hm=>by
  rcases List.mem_append.1 hm with hm | hm
  ·exact A.inv.wait m hm
  ·rw [List.mem_singleton.1 hm];exact hask)
 have HPU:Hid (∀ W,HomeAt W h c F H→_):=qh fun W hA=>tt.pput_ok F.pb F.pv (room c) H.wt n W hA.pool hroom hrl.2.1
 have HRO:=qh hroom
 obtain ⟨t',mm,HTL,hagg,hsize,hld⟩:=tt.named
 have HOL:Hid (∀ i,F.own i→i < w.heap.size):=qh fun i hi=>A.own_lt hi
 rw [HTK.out]
 clear A hbx hgb hT hK hr hw hf1 hf2 hk hbn HBT hna hask hj hroom hrl
 go_enter Tryz.func13,Tryz.ntmps13
 go_wp2_with (first
  | ((with_reducible refine tt.load_nt n _ w.heap.size ?_ (HR.out _ (by first | exact grown_refl _ _ | exact HG1.out)) ?_);(rfl))
  | (go_at_call 10;((with_reducible refine HRY.out.mono ?_);rintro e w1 ⟨rfl,hg1⟩;have HG1:=qh hg1;have hr1:=HR.out w1 hg1;have n0:=tt.cell_at hr1 0 _ rfl;have n3:=tt.cell_at hr1 3 _ rfl;rw [HNB.out] at n3;have HA1:=qh (HAB.out.grown hg1);have HT1:=qh (mtab_grown HTT.out hg1);clear hg1 hr1))
  | (go_at_call 18;((with_reducible refine (HBZ.out w1 HA1.out).mono ?_);rintro e w2 ⟨rfl,hg2⟩;have HG2:=qh (grown_trans HG1.out hg2);have HA2:=qh (HA1.out.grown hg2);have HT2:=qh (mtab_grown HT1.out hg2);have hr2:=qh (HR.out w2 HG2.out);clear hg2)))
 rw [HTL.out]
 refine wp_region_held_drew (S:=fun w'=>w'.heap[h]?=some (.cells #[.int .i64 c.co,.pointer (some ⟨F.mb,0,none⟩),F.ev,.map (some F.ub),.pointer (some ⟨F.pb,0,none⟩)] 88 (0,0))∧w'.heap[w.heap.size]?=some (.cells (na n) 45 (0,0))) (by kernel_rfl) ⟨HA2.out.blk,HX.out w2 HG2.out⟩ (fun hHeld=>?_)
 have hgd:=tt.grown_drew HG2.out
 have hAd:=HA2.out.grown (tt.grown_drew (grown_refl w2 none))
 generalize w2.drew=wd at hHeld hgd hAd ⊢
 have HH:=qh hHeld
 refine tl 0 ?_ rfl ?_ ?_ (tl 1 ?_ rfl ?_ ?_ (tl 2 ?_ rfl ?_ ?_ (tl 3 ?_ rfl ?_ ?_ (tl 4 ?_ rfl ?_ ?_ ?_))))
 iterate 5 (rotate_left;(next=>(try simp only [lay]);((intro w0 hSw;obtain ⟨hq1,hq2⟩:=hSw;have hs1:=cr hq1 4 rfl;have hs2:=hld w.heap.size n w0 (tt.range_of hq2);go_simp);try (with_reducible rfl)));next=>rfl)
 try simp only [lay]
 refine rd 5 rfl fun K hK=>?_
 go_simp
 (with_reducible refine (HPU.out wd hAd).mono ?_);rintro e w3 ⟨rfl,v',hP,hTn⟩;have HA3:=qh (hAd.setPool hP hTn HIN.out (by rw [List.length_append];exact HRO.out));have hdt:Did wd w3 F { F with pv:=v' }:=Did.of_turn hTn;have HD3:=qh ((Did.of_grown F (grown_trans HG.out hgd)).trans hdt);have HH3:Hid (w3.heap[h]?=some (.cells #[.int .i64 c.co,.pointer (some ⟨F.mb,0,none⟩),F.ev,.map (some F.ub),.pointer (some ⟨F.pb,0,none⟩)] 88 (0,0))∧w3.heap[w.heap.size]?=some (.cells (na n) 45 (0,0))):=qh ⟨hdt.heap HH.out.1 hAd.h_own,hdt.heap HH.out.2 (fun e=>by have:=HOL.out _ e;omega)⟩;clear hP hTn hdt
 go_wp2_with fail
 refine hK.out _ _ HH3.out (fun hHeld=>?_)
 clear hK K
 try simp only [lay]
 refine tl 6 ?_ rfl ?_ ?_ (tl 7 ?_ rfl ?_ ?_ ?_)
 iterate 2 (rotate_left;(next=>(try simp only [lay]);((intro w0 hSw;go_simp);try (with_reducible rfl)));next=>rfl)
 try simp only [lay]
 refine wpAnyH_done (by kernel_rfl) ?_ _
 clear hHeld hgd hAd
 go_wp2_with fail
 go_ret2
 exact ⟨_,_,rfl,HA3.out,tt.Sl.nil _ _ _,HD3.out,fun k hk=>by simp [Value.ownBlock] at hk⟩
theorem take_any (A:HomeAt w h c F H) (n:Nt) (hw:Word n) (hT:mm.Tab w) (hK:tt.TabK w):Calls Tryz.prog 13 #[.pointer (some ⟨h,0,none⟩),.agg (na n)] w fun e w'=>∃ F' v,e = .returned (.tuple #[v,.int .i64 (take c H n).2.2])∧HomeAt w' h c F' (take c H n).1∧NSl w' v (take c H n).2.1∧Did w w' F F'∧∀ k,v.ownBlock=some k→w.heap.size ≤ k∧¬ F'.own k:=by
 by_cases hr:ready c H n=0
 ·obtain ⟨hf1,hf2⟩:=ready_fits hr
  obtain ⟨hk,_,_⟩:=to_home hf1 hf2
  by_cases h9:n.k=9
  ·exact take_ack9 A n hw hT hK hr h9
  ·by_cases h10:n.k=10
   ·exact take_ack10 A n hw hT hK hr h10
   ·by_cases h11:n.k=11
    ·exact take_done' A n hw hT hK hr h11
    ·cases hj:(jbOf H n.b.toNat).isSome with
     | true=>exact take_wait A n hw hT hK hr (by omega) hj
     | false=>exact take_new A n hw hT hK hr (by omega) hj
 ·exact take_bad A n hw hT hK hr
end
end Go.Proofs.YtenhdijbcdkfbaaGreatDoor.hh
namespace Go.Proofs.YtenhdijbcdkfbaaGreatDoor.hh
set_option linter.unusedVariables false
set_option linter.unusedSimpArgs false
set_option maxRecDepth 1000000
set_option maxHeartbeats 16000000
open Go Go.ChangeShapes Go.WideShapes Go.ChangeAt Go.RowKit
open Go.Proofs.YtenhdijbcdkfbaaGreatDoor.tt (Nt Cfg fits net bare zd usd uses coreOf ok_ends MapAt mput mdel ik NPool NSl Turn flat na nt zn grown_alloc grown_refl grown_trans tyne lt_of)
open Go.Proofs.YtenhdijbcdkfbaaGreatDoor.en (En gets back asked asks free ask_parts may_parts ea)
open Go.Proofs.YtenhdijbcdkfbaaGreatDoor.mm (wi wo ones wo_lt)
theorem ret_ntp {fn:Func} {p:Tmp} (hres:fn.results=#[.cell p 45]) (w:World) (n:Nt) (B:Nat) (tmps:Array Value) (Q:Ending→World→Prop) (h4:tmps.getD p undef = .pointer (some ⟨B,0,none⟩))
  (hr:w.rangeAt B 0 (nt n)) (hQ:Q (.returned (.agg (na n))) w):bodyPost Tryz.prog fn Q .ret { tmps:=tmps,defers:=[] } w:=by
 refine bodyPost_ret (v:= .agg (na n)) ?_ rfl hQ
 have:=run_loadVar_mid (P:=Tryz.prog) w B 0 45 (nt n) _ hr Tryz.underlying45 rfl (tt.info31' n)
 have h4':tmps[p]?.getD undef = .pointer (some ⟨B,0,none⟩):=by simpa using h4
 simp [results,hres,h4',asAddr,this,na]
structure Tabs (w:World):Prop where
 m:mm.Tab w
 k:tt.TabK w
 t:tt.Tab w
theorem Tabs.grown {w w':World} (h:Tabs w) (hg:w.grownBy w' none):Tabs w':=⟨mtab_grown h.m hg,fun j hj=>hg.cell (h.k j hj) (by simp),h.t.grown hg⟩
theorem Tabs.gs_le {w:World} (h:Tabs w):gs ≤ w.heap.size:=by
 have h1:=World.block_lt_of_cell? w _ (h.m 0 (by omega))
 have h2:=World.block_lt_of_cell? w _ (h.k 1 (by omega))
 have h3:=World.block_lt_of_cell? w _ (h.t 0 (by omega)).1
 dsimp only at h1 h2 h3
 unfold gs;omega
structure Own (w w':World) (h:Nat) (c:Cfg) (F:Ft) (H:Hm):Prop where
 at':HomeAt w' h c F H
 old:w.grownBy w' none
 fresh:∀ i,F.own i→w.heap.size ≤ i
theorem Own.grown {w w1 w2:World} {h c F H} (O:Own w w1 h c F H) (hg:w1.grownBy w2 none):Own w w2 h c F H:=⟨O.at'.grown hg,grown_trans O.old hg,O.fresh⟩
theorem Own.from {w w1 w2:World} {h c F H} (hg:w.grownBy w1 none) (O:Own w1 w2 h c F H):Own w w2 h c F H:=⟨O.at',grown_trans hg O.old,fun i hi=>Nat.le_trans hg.size (O.fresh i hi)⟩
theorem Own.step {w w1 w2:World} {h c F H F' H'} (O:Own w w1 h c F H) (A:HomeAt w2 h c F' H') (D:Did w1 w2 F F'):Own w w2 h c F' H':=by
 refine ⟨A,⟨D.os.trans O.old.os,D.tape.trans O.old.tape,D.output.trans O.old.output,Nat.le_trans O.old.size D.size,fun k hk _=>(D.block k (Nat.lt_of_lt_of_le hk O.old.size) (fun e=>by have:=O.fresh k e;omega)).trans (O.old.block k hk (by simp))⟩,fun i hi=>?_⟩
 rcases hi with e | e | e | e | e
 ·exact O.fresh i (.inl (D.mv ▸ e))
 ·exact O.fresh i (.inr (.inl (D.ev ▸ e)))
 ·exact O.fresh i (.inr (.inr (.inl (e.trans D.ub))))
 ·exact O.fresh i (.inr (.inr (.inr (.inl (e.trans D.pb)))))
 ·rcases D.next with h1 | h1
  ·exact O.fresh i (.inr (.inr (.inr (.inr (h1 ▸ e)))))
  ·exact Nat.le_trans O.old.size (h1 i e)
theorem Own.tabs {w w':World} {h c F H} (O:Own w w' h c F H) (T:Tabs w):Tabs w':=T.grown O.old
theorem own_take {w w1:World} {h c F H} (T:Tabs w) (O:Own w w1 h c F H) (n:Nt) (hw:Word n):Calls Tryz.prog 13 #[.pointer (some ⟨h,0,none⟩),.agg (na n)] w1 fun e w2=>∃ F' v,e = .returned (.tuple #[v,.int .i64 (take c H n).2.2])∧Own w w2 h c F' (take c H n).1∧NSl w2 v (take c H n).2.1∧Did w1 w2 F F'∧∀ k,v.ownBlock=some k→w1.heap.size ≤ k∧¬ F'.own k:=
 (take_any O.at' n hw (O.tabs T).m (O.tabs T).k).mono fun e w2 ⟨F',v,he,hA,hS,hD,hf⟩=>⟨F',v,he,O.step hA hD,hS,hD,hf⟩
theorem own_new {w w1:World} {c:Cfg} {mb:Nat} {mv:Value} {bs:List (List Int)} (T:Tabs w) (hg:w.grownBy w1 none) (hM:pp.Mem w1 mb mv bs) (hv:∀ i,mv.ownBlock=some i→w.heap.size ≤ i) (hm:c.may) (hl:(bs.length:Int)=c.bl) :
  Calls Tryz.prog 7 #[.agg c.cells,.pointer (some ⟨mb,0,none⟩)] w1 fun e w2=>∃ h F,e = .returned (.tuple #[.pointer (some ⟨h,0,none⟩),.int .i64 0])∧Own w w2 h c F (new c bs)∧F.mb=mb∧F.mv=mv∧w1.grownBy w2 none:=
 (new_yes c mb mv bs w1 hM (T.grown hg).t hm hl (Nat.le_trans T.gs_le hg.size) (fun i hi=>Nat.le_trans T.gs_le (hv i hi))).mono fun e w2 ⟨h,F,he,hA,hg2,h1,h2,h3,h4⟩=>
  ⟨h,F,he,⟨hA,grown_trans hg hg2,fun i hi=>(h4 i hi).elim (hv i) (Nat.le_trans hg.size)⟩,h1,h2,hg2⟩
def upn (k core:Int):Nt:=bare k core (-1) 5 0 0 false false
def dnn (k core:Int):Nt:=bare k (-1) core 5 0 0 false false
theorem up_any (k core:Int) (w:World):Calls Tryz.prog 24 #[.int .u8 k,.int .i64 core] w fun e w'=>e = .returned (.agg (na (upn k core)))∧w.grownBy w' none:=by
 have HZ:Hid (na (upn k core)=_):=qh (tt.bare_na k core (-1) 5 0 0 false false)
 go_enter Tryz.func24,Tryz.ntmps24
 go_wp2_with ((with_reducible refine tt.store_lit _ _ HZ.out _ _ _ ?_ ?_ ?_ ?_);(rfl);(rfl);(rfl))
 exact ret_ntp rfl _ (upn k core) w.heap.size _ _ (by rfl) (tt.range_of (heap_alloc_new w (.cells (na (upn k core)) 45))) ⟨rfl,grown_alloc (grown_refl _ _) _⟩
theorem down_any (k core:Int) (w:World):Calls Tryz.prog 22 #[.int .u8 k,.int .i64 core] w fun e w'=>e = .returned (.agg (na (dnn k core)))∧w.grownBy w' none:=by
 have HZ:Hid (na (dnn k core)=_):=qh (tt.bare_na k (-1) core 5 0 0 false false)
 go_enter Tryz.func22,Tryz.ntmps22
 go_wp2_with ((with_reducible refine tt.store_lit _ _ HZ.out _ _ _ ?_ ?_ ?_ ?_);(rfl);(rfl);(rfl))
 exact ret_ntp rfl _ (dnn k core) w.heap.size _ _ (by rfl) (tt.range_of (heap_alloc_new w (.cells (na (dnn k core)) 45))) ⟨rfl,grown_alloc (grown_refl _ _) _⟩
theorem info40:(Tryz.prog.info? 23).map (·.size)=some 8:=by kernel_rfl
def c2:Cfg:=⟨2,2,2,10,1,1,1,0⟩
theorem c2_may:c2.may:=by decide +kernel
theorem two_any (w:World):Calls Tryz.prog 56 #[] w fun e w'=>e = .returned (.agg c2.cells)∧w.grownBy w' none:=by
 go_enter Tryz.func56,Tryz.ntmps56
 go_wp2
 refine bodyPost_ret (v:= .agg c2.cells) (results_cell_row rfl _ _ w.heap.size 23 c2.cells (0,0) _ rfl (heap_alloc_new _ _) Tryz.underlying23 rfl info40) rfl ?_
 exact ⟨rfl,grown_alloc (grown_refl _ _) _⟩
def m10:List (List Int):=List.replicate 10 pp.zero
theorem mem10 (w:World):Calls Tryz.prog 5 #[.int .i64 10] w fun e w'=>∃ b v,e = .returned (.tuple #[.pointer (some ⟨b,0,none⟩),.int .i64 0])∧pp.Mem w' b v m10∧w.grownBy w' none∧w.heap.size ≤ b∧∀ k,v.ownBlock=some k→w.heap.size ≤ k:=pp.new_ok 10 w (by omega) (by omega)
theorem begun_any (w:World) (T:Tabs w):Calls Tryz.prog 21 #[] w fun e w'=>∃ h F,e = .returned (.tuple #[.pointer (some ⟨h,0,none⟩),.bool true])∧Own w w' h c2 F (new c2 m10):=by
 have HMN:=qh (mem10 w)
 have HP:Hid (∀ w,_):=qh fun w=>two_any w
 have HN:Hid (∀ w1 mb mv,w.grownBy w1 none→pp.Mem w1 mb mv m10→(∀ i,mv.ownBlock=some i→w.heap.size ≤ i)→_):=qh fun w1 mb mv hg hM hv=>own_new T hg hM hv c2_may (by rfl)
 clear T
 go_enter Tryz.func21,Tryz.ntmps21
 go_wp2_with (first
  | (go_at_call 5;((with_reducible refine HMN.out.mono ?_);rintro e w1 ⟨mb,mv,rfl,hM,hg1,hb,hv⟩;have HM:=qh hM;have HG1:=qh hg1;have HV:=qh hv;clear hM hg1 hv hb))
  | (go_at_call 56;((with_reducible refine (HP.out _).mono ?_);rintro e w2 ⟨rfl,hg2⟩;have HG2:=qh hg2;clear hg2))
  | (go_at_call 7;((with_reducible refine (HN.out _ mb mv (grown_trans HG1.out HG2.out) (HM.out.kept HG2.out) HV.out).mono ?_);rintro e w3 ⟨h,F,rfl,hO,_,_,_⟩;have HO:=qh hO;clear hO)))
 go_ret2
 exact ⟨h,F,rfl,HO.out⟩
theorem gives_any {w w1:World} {h c F H} (T:Tabs w) (O:Own w w1 h c F H) (n:Nt) (hw:Word n) (v:Value) (ns:List Nt) (hS:NSl w1 v ns) (hv:∀ k,v.ownBlock=some k→¬ F.own k) (he:(take c H n).2.2=0) (ho:(take c H n).2.1=ns) (hl:ns.length ≤ 65536) :
  Calls Tryz.prog 23 #[.pointer (some ⟨h,0,none⟩),.agg (na n),v] w1 fun e w2=>e = .returned (.bool true)∧∃ F',Own w w2 h c F' (take c H n).1∧Did w1 w2 F F':=by
 obtain ⟨wb,hwb⟩:∃ wb,w1.alloc (.cells (na n) 45)=wb:=⟨_,rfl⟩
 have hgb:w1.grownBy wb none:=by rw [← hwb];exact grown_alloc (grown_refl _ _) _
 have hbx:wb.heap[w1.heap.size]?=some (.cells (na n) 45 (0,0)):=by rw [← hwb];exact heap_alloc_new _ _
 have HBX:=qh (tt.range_of hbx)
 have HT:=qh (own_take T (O.grown hgb) n hw)
 rw [he,ho] at HT
 have HS:Hid (∀ w2 F',Did wb w2 F F'→NSl w2 v ns):=qh fun w2 F' D=>D.sl (hS.grown hgb) hv
 have HE:Hid (∀ v1 w2,NSl w2 v1 ns→NSl w2 v ns→_):=qh fun v1 w2 h1 h2=>tt.equal_yes v1 v ns w2 h1 h2 hl
 have HG:=qh hgb
 clear T O hS hv he ho hl hgb hbx
 go_enter Tryz.func23,Tryz.ntmps23
 go_wp2_with (first
  | ((with_reducible refine tt.load_nt n _ w1.heap.size ?_ (by first | exact HBX.out | (rw [hwb];exact HBX.out)) ?_);(rfl))
  | (go_at_call 13;((with_reducible refine (by first | exact HT.out | (rw [hwb];exact HT.out):Calls _ _ _ _ _).mono ?_);rintro e w2 ⟨F',v1,rfl,hO,hS1,hD,_⟩;have HO:=qh hO;have HS1:=qh hS1;have HD:=qh hD;clear hO hS1 hD))
  | (go_at_call 15;((with_reducible refine (HE.out _ _ HS1.out (HS.out _ _ HD.out)).mono ?_);rintro e w3 ⟨rfl,hg3⟩;have HG3:=qh hg3;clear hg3)))
 go_ret
 exact ⟨rfl,F',HO.out.grown HG3.out,(Did.after HG.out HD.out).trans (Did.of_grown F' HG3.out)⟩
theorem own_busy {w w1:World} {h c F H} (O:Own w w1 h c F H) (b:Nat):Calls Tryz.prog 18 #[.pointer (some ⟨h,0,none⟩),.int .i64 (b:Int)] w1 fun e w2=>e = .returned (.bool (jbOf H b).isSome)∧w1.grownBy w2 none:=busy_any O.at' b
end Go.Proofs.YtenhdijbcdkfbaaGreatDoor.hh
namespace Go.Proofs.YtenhdijbcdkfbaaGreatDoor.hh
set_option linter.unusedVariables false
set_option linter.unusedSimpArgs false
set_option maxRecDepth 1000000
set_option maxHeartbeats 16000000
open Go Go.ChangeShapes Go.WideShapes Go.ChangeAt Go.RowKit
open Go.Proofs.YtenhdijbcdkfbaaGreatDoor.tt (Nt Cfg fits net bare zd usd uses coreOf ok_ends MapAt mput mdel ik NPool NSl Turn flat na nt zn grown_alloc grown_refl grown_trans tyne lt_of)
open Go.Proofs.YtenhdijbcdkfbaaGreatDoor.en (En gets back asked asks free ask_parts may_parts ea)
open Go.Proofs.YtenhdijbcdkfbaaGreatDoor.mm (wi wo ones wo_lt)
theorem fold_note (x:Nt):Array.foldl (fun (cs:Array Value) (x:Value × Nat)=>cs.setIfInBounds x.snd x.fst) #[.int .u8 0,.int .i64 0,.int .i64 0,.int .i64 0,.int .u64 0,.int .u8 0,.bool false,.bool false,.int .u32 0,.int .u32 0,.int .u32 0,.int .u32 0,.int .u32 0,.int .u32 0,.int .u32 0,.int .u32 0,.int .u32 0,.int .u32 0,.int .u32 0,.int .u32 0,.int .u32 0,.int .u32 0,.int .u32 0,.int .u32 0] (na x).zipIdx 0 24=na x:=by
 obtain ⟨k,f,t,b,st,s,h,q,d,hd⟩:=x
 match d,hd with
 | [d0,d1,d2,d3,d4,d5,d6,d7,d8,d9,d10,d11,d12,d13,d14,d15],hd=>simp [na,nt,tt.U]
theorem run_fld (g k:Nat) (ty:TypeId) (u:Value) (x y:Nt) (w:World) (hi:(Tryz.prog.info? ty).map (·.size)=some 1) (hu:u.oneCell'=true) (hg:w.heap[g]?=some (.cells (na x) 45 (0,0))) (hk:k < 24) (hy:(nt x).take k ++ [u] ++ (nt x).drop (k + 1)=nt y) :
  (Instr.storeAt ty (.pointer (some ⟨g,k,none⟩)) u).run Tryz.prog w = .ok () (w.setRow g (na y)):=by
 have hst:=run_storeCells_at Tryz.prog g k 45 [u] 0 (na x) w hg (by rw [tt.na_size];simp;omega) (fun v hv=>by simp at hv;subst hv;exact hu)
 have hc:u.cells=#[u]:=by cases u <;> first | rfl | cases hu
 have he:((na x).toList.take (k + 0) ++ [u] ++ (na x).toList.drop (k + 0 + [u].length)).toArray=na y:=by
  show ((nt x).take k ++ [u] ++ (nt x).drop (k + 1)).toArray=_
  rw [hy];rfl
 rw [he] at hst
 cases hq:Tryz.prog.info? ty with
 | none=>simp [hq] at hi
 | some i=>
  have hs:i.size=1:=by simpa [hq] using hi
  simp [Instr.storeAt,Instr.sureAddr,storeVar,sizeOf,typeInfo,hq,hc,hs,hst]
theorem store_fld {w:World} {ops:Array Oper} {rest:List Oper} {a:Act} {Q:Exit→Act→World→Prop} {dst:Option Tmp} {ty':TypeId} {pos:String} {after:Array Edge} (ty:TypeId) (p:Tmp) (k:Nat) (u:Value) (x y:Nt)
  (hp:a.eval (.tmp p) = .pointer (some ⟨w.heap.size,k,none⟩)) (hi:(Tryz.prog.info? ty).map (·.size)=some 1) (hu:u.oneCell'=true) (hk:k < 24) (hy:(nt x).take k ++ [u] ++ (nt x).drop (k + 1)=nt y)
  (h:wpList Tryz.prog ops Q rest (a.put dst undef) (w.alloc (.cells (na y) 45))):wpList Tryz.prog ops Q (⟨dst,.store ty (.tmp p) (.const u),ty',pos,after,none⟩ :: rest) a (w.alloc (.cells (na x) 45)):=
 wpList_plain rfl fun K hK=>by
  have hrun:=run_fld w.heap.size k ty u x y (w.alloc (.cells (na x) 45)) hi hu (heap_alloc_new _ _) hk hy
  rw [World.setRow_alloc_new] at hrun
  unfold Oper.wp execOp
  simp only [hp,Act.eval,Sem.run_bind,Result.andThen_ok] at *
  simp only [hp,hrun,Result.andThen_ok]
  exact hK _ _ h
def a1:Nt:=bare 6 (-1) 0 5 0 2 false false
structure Fl (w wk:World) (h:Nat) (F:Ft) (H:Hm) (vs:List (Nat × Nt)):Prop where
 own:Own w wk h c2 F H
 vars:∀ x ∈ vs,wk.heap[x.1]?=some (.cells (na x.2) 45 (0,0))∧¬ F.own x.1
theorem Fl.grown {w w1 w2:World} {h F H vs} (O:Fl w w1 h F H vs) (g:w1.grownBy w2 none):Fl w w2 h F H vs:=⟨O.own.grown g,fun x hx=>⟨row_up (O.vars x hx).1 g,(O.vars x hx).2⟩⟩
theorem Fl.gave {w w1 w2:World} {h F H F' H' vs} (O:Fl w w1 h F H vs) (o:Own w w2 h c2 F' H') (D:Did w1 w2 F F'):Fl w w2 h F' H' vs:=⟨o,fun x hx=>⟨D.heap (O.vars x hx).1 (O.vars x hx).2,D.own (lt_of (O.vars x hx).1) (O.vars x hx).2⟩⟩
theorem Fl.var {w w1 w2:World} {h F H vs} (O:Fl w w1 h F H vs) (g:w1.grownBy w2 none) {B:Nat} {x:Nt} (hB:w1.heap.size ≤ B) (hx:w2.heap[B]?=some (.cells (na x) 45 (0,0))):Fl w w2 h F H ((B,x) :: vs):=
 ⟨O.own.grown g,fun y hy=>by
  rcases List.mem_cons.1 hy with rfl | hy
  ·exact ⟨hx,fun e=>by have:=O.own.at'.own_lt e;omega⟩
  ·exact (O.grown g).vars y hy⟩
theorem Fl.one {w w1:World} {h F H vs} (T:Tabs w) (O:Fl w w1 h F H vs) (n:Nt) (hw:Word n) (B:Nat) (x:Nt) (hB:(B,x) ∈ vs) (hk:(take c2 H n).2.2=0∧(take c2 H n).2.1=[x]) :
  Calls Tryz.prog 23 #[.pointer (some ⟨h,0,none⟩),.agg (na n),.slice (some ⟨B,0,none⟩) 1 1] w1 fun e w2=>e = .returned (.bool true)∧∃ F',Fl w w2 h F' (take c2 H n).1 vs:=
 (gives_any T O.own n hw _ [x] (nsl_one (O.vars _ hB).1) (fun k e=>by simp [Value.ownBlock] at e;subst e;exact (O.vars _ hB).2) hk.1 hk.2 (by simp)).mono fun e w2 ⟨he,F',o,D⟩=>⟨he,F',O.gave o D⟩
theorem Fl.none {w w1:World} {h F H vs} (T:Tabs w) (O:Fl w w1 h F H vs) (n:Nt) (hw:Word n) (hk:(take c2 H n).2.2=0∧(take c2 H n).2.1=[]) :
  Calls Tryz.prog 23 #[.pointer (some ⟨h,0,none⟩),.agg (na n),.slice none 0 0] w1 fun e w2=>e = .returned (.bool true)∧∃ F',Fl w w2 h F' (take c2 H n).1 vs:=
 (gives_any T O.own n hw _ [] (tt.Sl.nil _ _ _) (fun k e=>by simp [Value.ownBlock] at e) hk.1 hk.2 (by simp)).mono fun e w2 ⟨he,F',o,D⟩=>⟨he,F',O.gave o D⟩
def after:Hm→List Nt→Hm
 | H,[]=>H
 | H,n :: l=>after (take c2 H n).1 l
def w0:Hm:=new c2 m10
def a0:Nt:=bare 6 (-1) 0 5 0 2 true false
theorem g1:(take c2 w0 (upn 1 0)).2.2=0∧(take c2 w0 (upn 1 0)).2.1=[a0]:=by decide +kernel
def w1':Hm:=(take c2 w0 (upn 1 0)).1
theorem g1b:(jbOf w1' 5).isSome=true:=by decide +kernel
theorem g2:(take c2 w1' (upn 2 1)).2.2=0∧(take c2 w1' (upn 2 1)).2.1=[]:=by decide +kernel
theorem g2w:(take c2 w1' (upn 2 1)).1.wt.length=1:=by decide +kernel
theorem wup (k core:Int):Word (upn k core):=⟨Int.le_refl _,by show (0:Int) < _;omega⟩
theorem works_any (w:World) (T:Tabs w):Calls Tryz.prog 4 #[] w fun e w'=>e = .returned (.bool true)∧w.grownBy w' none:=by
 have HB:=qh (begun_any w T)
 have HD:Hid (∀ w,_):=qh fun w=>down_any 6 0 w
 have HT:=qh T
 clear T
 go_enter Tryz.func4,Tryz.ntmps4
 go_wp2_with (first
  | (go_at_call 21;((with_reducible refine HB.out.mono ?_);rintro e w1 ⟨h,F,rfl,hO⟩;have HO:=qh hO;clear hO))
  | (go_at_call 22;((with_reducible refine (HD.out _).mono ?_);rintro e w2 ⟨rfl,hg2⟩;have HG2:=qh hg2;clear hg2))
  | ((with_reducible refine tt.store_new (dnn 6 0) _ _ _ ?_ ?_ ?_ ?_);(rfl);(rfl);(rfl))
  | ((with_reducible refine store_fld _ 9 5 (.int .u8 2) (dnn 6 0) a1 ?_ ?_ ?_ ?_ ?_ ?_);(rfl);(kernel_rfl);(rfl);(decide);(rfl))
  | ((with_reducible refine store_fld _ 10 6 (.bool true) a1 a0 ?_ ?_ ?_ ?_ ?_ ?_);(rfl);(kernel_rfl);(rfl);(decide);(rfl)))
 obtain ⟨B3,hB3⟩:∃ B,w2.heap.size=B:=⟨_,rfl⟩
 obtain ⟨wv,hwv⟩:∃ x,w2.alloc (.cells (na a0) 45)=x:=⟨_,rfl⟩
 have HF:Hid (Fl w wv h F w0 [(B3,a0)]):=qh (by
  rw [← hwv,← hB3]
  exact (Fl.mk (HO.out.grown HG2.out) (fun x hx=>by cases hx):Fl w w2 h F w0 []).var (grown_alloc (grown_refl _ _) _) (Nat.le_refl _) (heap_alloc_new _ _))
 rw [hwv,hB3]
 clear hwv hB3 HO HG2 HB HD
 obtain ⟨t',mm,HTT,hagg,hsize,hld⟩:=tt.named
 have HLD:=qh hld
 have hfo:=fold_note
 have hsz:=tt.na_size
 rw [HTT.out]
 clear hld
 refine wp_region_held_drew (S:=fun w'=>w'.heap[B3]?=some (.cells (na a0) 45 (0,0))) (by kernel_rfl) ((HF.out.grown (tt.grown_drew (grown_refl _ _))).vars (B3,a0) (by simp)).1 (fun hHeld=>?_)
 replace HF:=qh (HF.out.grown (tt.grown_drew (grown_refl _ _)))
 generalize wv.drew=wd at hHeld HF ⊢
 refine tl 0 ?_ rfl ?_ ?_ (tl 1 ?_ rfl ?_ ?_ (tl 2 ?_ rfl ?_ ?_ (tl 4 ?_ rfl ?_ ?_ ?_)))
 iterate 4 (rotate_left;(next=>(try simp only [lay]);((intro w0 hSw;have hs1:=HLD.out B3 a0 w0 (tt.range_of hSw);go_simp);try (with_reducible rfl)));next=>rfl)
 try simp only [lay]
 refine wpAnyH_ready (rs:=[3,5]) (by kernel_rfl) (by simp) ?_
 refine ac rfl (fun K hK=>?_) (ac rfl (fun K hK=>?_) AllReadyH.nil)
 ·skip
  go_simp
  (with_reducible refine (up_any 1 0 _).mono ?_);rintro e wn1 ⟨rfl,hg⟩;replace HF:=qh (HF.out.grown hg);clear hg
  go_wp2_with fail
  refine hK.out _ _ (HF.out.vars (B3,a0) (by simp)).1 (fun hHeld=>?_)
  clear hK K
  try simp only [lay]
  refine rd 5 rfl fun K hK=>?_
  go_simp
  obtain ⟨wn2,hn⟩:∃ w',wn1.alloc (.cells (na a0) 45)=w':=⟨_,rfl⟩
  obtain ⟨B5,hm⟩:∃ B,wn1.heap.size=B:=⟨_,rfl⟩
  replace HF:=qh (HF.out.var (w2:=wn2) (B:=B5) (x:=a0) (by rw [← hn];exact grown_alloc (grown_refl _ _) _) (Nat.le_of_eq hm) (by rw [← hn,← hm];exact heap_alloc_new _ _))
  rw [hn,hm]
  clear hn hm
  refine hK.out _ _ (HF.out.vars (B3,a0) (by simp)).1 (fun hHeld=>?_)
  clear hK K
  try simp only [lay]
  refine rd 6 rfl fun K hK=>?_
  go_simp
  (with_reducible refine (HF.out.one HT.out (upn 1 0) (wup _ _) B5 a0 (by simp) g1).mono ?_);rintro e wn3 ⟨rfl,Fwn3,hf⟩;replace HF:Hid (Fl w wn3 h Fwn3 w1' _):=qh hf;clear hf
  go_wp2_with fail
  refine hK.out _ _ (HF.out.vars (B3,a0) (by simp)).1 (fun hHeld=>?_)
  clear hK K
  try simp only [lay]
  refine tl 7 ?_ rfl ?_ ?_ (tl 8 ?_ rfl ?_ ?_ (tl 9 ?_ rfl ?_ ?_ ?_))
  iterate 3 (rotate_left;(next=>(try simp only [lay]);((intro w0 hSw;go_simp);try (with_reducible rfl)));next=>rfl)
  try simp only [lay]
  refine rd 10 rfl fun K hK=>?_
  go_simp
  have hbu:=own_busy HF.out.own 5
  rw [g1b] at hbu
  (refine (Calls.mono hbu ?_));rintro e wn4 ⟨rfl,hg⟩;replace HF:=qh (HF.out.grown hg);clear hg hbu
  go_wp2_with fail
  refine hK.out _ _ (HF.out.vars (B3,a0) (by simp)).1 (fun hHeld=>?_)
  clear hK K
  try simp only [lay]
  refine tl 11 ?_ rfl ?_ ?_ (tl 12 ?_ rfl ?_ ?_ (tl 13 ?_ rfl ?_ ?_ ?_))
  iterate 3 (rotate_left;(next=>(try simp only [lay]);((intro w0 hSw;go_simp);try (with_reducible rfl)));next=>rfl)
  try simp only [lay]
  refine rd 14 rfl fun K hK=>?_
  go_simp
  (with_reducible refine (up_any 2 1 _).mono ?_);rintro e wn5 ⟨rfl,hg⟩;replace HF:=qh (HF.out.grown hg);clear hg
  go_wp2_with fail
  refine hK.out _ _ (HF.out.vars (B3,a0) (by simp)).1 (fun hHeld=>?_)
  clear hK K
  try simp only [lay]
  refine rd 15 rfl fun K hK=>?_
  go_simp
  (with_reducible refine (HF.out.none HT.out (upn 2 1) (wup _ _) g2).mono ?_);rintro e wn6 ⟨rfl,Fwn6,hf⟩;replace HF:Hid (Fl w wn6 h Fwn6 (take c2 w1' (upn 2 1)).1 _):=qh hf;clear hf
  go_wp2_with fail
  refine hK.out _ _ (HF.out.vars (B3,a0) (by simp)).1 (fun hHeld=>?_)
  clear hK K
  try simp only [lay]
  refine tl 16 ?_ rfl ?_ ?_ (tl 17 ?_ rfl ?_ ?_ (tl 18 ?_ rfl ?_ ?_ ?_))
  iterate 3 (rotate_left;(next=>(try simp only [lay]);((intro w0 hSw;go_simp);try (with_reducible rfl)));next=>rfl)
  try simp only [lay]
  refine rd 19 rfl fun K hK=>?_
  go_simp
  have hbu:=waits_any HF.out.own.at'
  rw [g2w] at hbu
  (refine (Calls.mono hbu ?_));rintro e wn7 ⟨rfl,rfl⟩;clear hbu
  go_wp2_with fail
  refine hK.out _ _ (HF.out.vars (B3,a0) (by simp)).1 (fun hHeld=>?_)
  clear hK K
  try simp only [lay]
  refine tl 20 ?_ rfl ?_ ?_ (tl 21 ?_ rfl ?_ ?_ (tl 22 ?_ rfl ?_ ?_ ?_))
  iterate 3 (rotate_left;(next=>(try simp only [lay]);((intro w0 hSw;go_simp);try (with_reducible rfl)));next=>rfl)
  try simp only [lay]
  refine wpAnyH_done (by kernel_rfl) ?_ _
  go_wp2_with fail
  go_ret
  exact ⟨rfl,HF.out.own.old⟩
 ·skip
  go_simp
  obtain ⟨wn8,hn⟩:∃ w',wd.alloc (.cells (na a0) 45)=w':=⟨_,rfl⟩
  obtain ⟨B5,hm⟩:∃ B,wd.heap.size=B:=⟨_,rfl⟩
  replace HF:=qh (HF.out.var (w2:=wn8) (B:=B5) (x:=a0) (by rw [← hn];exact grown_alloc (grown_refl _ _) _) (Nat.le_of_eq hm) (by rw [← hn,← hm];exact heap_alloc_new _ _))
  rw [hn,hm]
  clear hn hm
  refine hK.out _ _ (HF.out.vars (B3,a0) (by simp)).1 (fun hHeld=>?_)
  clear hK K
  try simp only [lay]
  refine rd 3 rfl fun K hK=>?_
  go_simp
  (with_reducible refine (up_any 1 0 _).mono ?_);rintro e wn9 ⟨rfl,hg⟩;replace HF:=qh (HF.out.grown hg);clear hg
  go_wp2_with fail
  refine hK.out _ _ (HF.out.vars (B3,a0) (by simp)).1 (fun hHeld=>?_)
  clear hK K
  try simp only [lay]
  refine rd 6 rfl fun K hK=>?_
  go_simp
  (with_reducible refine (HF.out.one HT.out (upn 1 0) (wup _ _) B5 a0 (by simp) g1).mono ?_);rintro e wn10 ⟨rfl,Fwn10,hf⟩;replace HF:Hid (Fl w wn10 h Fwn10 w1' _):=qh hf;clear hf
  go_wp2_with fail
  refine hK.out _ _ (HF.out.vars (B3,a0) (by simp)).1 (fun hHeld=>?_)
  clear hK K
  try simp only [lay]
  refine tl 7 ?_ rfl ?_ ?_ (tl 8 ?_ rfl ?_ ?_ (tl 9 ?_ rfl ?_ ?_ ?_))
  iterate 3 (rotate_left;(next=>(try simp only [lay]);((intro w0 hSw;go_simp);try (with_reducible rfl)));next=>rfl)
  try simp only [lay]
  refine rd 10 rfl fun K hK=>?_
  go_simp
  have hbu:=own_busy HF.out.own 5
  rw [g1b] at hbu
  (refine (Calls.mono hbu ?_));rintro e wn11 ⟨rfl,hg⟩;replace HF:=qh (HF.out.grown hg);clear hg hbu
  go_wp2_with fail
  refine hK.out _ _ (HF.out.vars (B3,a0) (by simp)).1 (fun hHeld=>?_)
  clear hK K
  try simp only [lay]
  refine tl 11 ?_ rfl ?_ ?_ (tl 12 ?_ rfl ?_ ?_ (tl 13 ?_ rfl ?_ ?_ ?_))
  iterate 3 (rotate_left;(next=>(try simp only [lay]);((intro w0 hSw;go_simp);try (with_reducible rfl)));next=>rfl)
  try simp only [lay]
  refine rd 14 rfl fun K hK=>?_
  go_simp
  (with_reducible refine (up_any 2 1 _).mono ?_);rintro e wn12 ⟨rfl,hg⟩;replace HF:=qh (HF.out.grown hg);clear hg
  go_wp2_with fail
  refine hK.out _ _ (HF.out.vars (B3,a0) (by simp)).1 (fun hHeld=>?_)
  clear hK K
  try simp only [lay]
  refine rd 15 rfl fun K hK=>?_
  go_simp
  (with_reducible refine (HF.out.none HT.out (upn 2 1) (wup _ _) g2).mono ?_);rintro e wn13 ⟨rfl,Fwn13,hf⟩;replace HF:Hid (Fl w wn13 h Fwn13 (take c2 w1' (upn 2 1)).1 _):=qh hf;clear hf
  go_wp2_with fail
  refine hK.out _ _ (HF.out.vars (B3,a0) (by simp)).1 (fun hHeld=>?_)
  clear hK K
  try simp only [lay]
  refine tl 16 ?_ rfl ?_ ?_ (tl 17 ?_ rfl ?_ ?_ (tl 18 ?_ rfl ?_ ?_ ?_))
  iterate 3 (rotate_left;(next=>(try simp only [lay]);((intro w0 hSw;go_simp);try (with_reducible rfl)));next=>rfl)
  try simp only [lay]
  refine rd 19 rfl fun K hK=>?_
  go_simp
  have hbu:=waits_any HF.out.own.at'
  rw [g2w] at hbu
  (refine (Calls.mono hbu ?_));rintro e wn14 ⟨rfl,rfl⟩;clear hbu
  go_wp2_with fail
  refine hK.out _ _ (HF.out.vars (B3,a0) (by simp)).1 (fun hHeld=>?_)
  clear hK K
  try simp only [lay]
  refine tl 20 ?_ rfl ?_ ?_ (tl 21 ?_ rfl ?_ ?_ (tl 22 ?_ rfl ?_ ?_ ?_))
  iterate 3 (rotate_left;(next=>(try simp only [lay]);((intro w0 hSw;go_simp);try (with_reducible rfl)));next=>rfl)
  try simp only [lay]
  refine wpAnyH_done (by kernel_rfl) ?_ _
  go_wp2_with fail
  go_ret
  exact ⟨rfl,HF.out.own.old⟩
end Go.Proofs.YtenhdijbcdkfbaaGreatDoor.hh
