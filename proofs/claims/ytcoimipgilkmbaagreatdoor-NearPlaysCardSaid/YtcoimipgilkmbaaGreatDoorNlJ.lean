/-
 What an ask answers: contracts. Conditions: as NlA names them.
-/
import Derived.Test.YtcoimipgilkmbaaGreatDoorTl
import Derived.Test.YtcoimipgilkmbaaGreatDoorNlI
namespace Go.Proofs.YtcoimipgilkmbaaGreatDoor.nl
set_option linter.unusedVariables false
set_option linter.unusedSimpArgs false
set_option maxRecDepth 1000000
set_option maxHeartbeats 16000000
open Go Go.ChangeShapes Go.WideShapes Go.ChangeAt Go.RowKit Go.Shelf
open Go.Proofs.YtcoimipgilkmbaaGreatDoor.nr
open Go.Proofs.YtcoimipgilkmbaaGreatDoor.tt (Cfg Nt na nt zn bare zd fits row tyne lt_of U Tab TabK grown_refl grown_trans grown_alloc grown_setCells grown_drew grown_drewN yes Sl Next flat)
open Go.Proofs.YtcoimipgilkmbaaGreatDoor.kk (Ln St zl la ln cfind cdrop cuse cgoes cwrite cturn cput setAt setOf live fF Shp Cac Kept)
open Go.Proofs.YtcoimipgilkmbaaGreatDoor.bk (Bk rem kills puts putE fd fl Nd Rg dead fresh BkAt)
open Go.Proofs.YtcoimipgilkmbaaGreatDoor.mrk (Ms rdS wrS meets addE Dom MkAt)
open Go.Proofs.YtcoimipgilkmbaaGreatDoor.de (Dl sT gE rF aD LAt)
open Go.Proofs.YtcoimipgilkmbaaGreatDoor.oo (ref)
section
variable {w:World} {L:LL} {P:Pm} {k:Nr} (h:LN w L P k)
theorem back_mw {P:Pm} {k:Nr} {b:Int}:back P k b=((cgoes P.c k.ss b).2 && mw (cgoes P.c k.ss b).1):=rfl
include h
theorem send_any (b:Int) (wr:Bool) (hb:0 ≤ b∧b < (P.N:Int)) (hw:k.wt=false) (hr:rdy P k b wr=false):Calls Tryz.prog 52 #[.pointer (some ⟨L.q,0,none⟩),.int .u8 (if wr=true then 2 else 1),.int .i64 b] w fun e w'=>∃ s,e = .returned (.tuple #[s,.int .i64 (askE P k b wr)])∧OutN w w' s (askO P k b wr)∧∃ v,LN w' { L with bv:=v } P (askS P k b wr)∧Mv w w' L v:=by
 have hE:askE P k b wr=if (bk.look k.bs b).isSome=true then 110 else if back P k b=true∧k.bs.length=P.m then 110 else 0:=by
  unfold askE
  rw [if_neg (by omega),if_neg (by rw [hw];decide),if_neg (by rw [hr];decide)]
 cases hB:(bk.look k.bs b).isSome
 ·rw [hB,if_neg (by decide)] at hE
  by_cases hf:back P k b=true∧k.bs.length=P.m
  ·rw [if_pos hf] at hE
   have hg:goesOut P k b wr=false:=by unfold goesOut;rw [hE];rfl
   have hO:askO P k b wr=[]:=by unfold askO;rw [hg];rfl
   have hS:askS P k b wr=k:=by unfold askS;rw [hg];rfl
   rw [hE,hO,hS]
   rw [back_mw,Bool.and_eq_true] at hf
   exact (send_full h _ b hB hf.1.1 hf.1.2 hf.2).mono fun e w' ⟨he,v,hl,hm⟩=>⟨_,he,OutN.nil _ _,v,hl,hm⟩
  ·rw [if_neg hf] at hE
   have hg:goesOut P k b wr=true:=by unfold goesOut;rw [hE,hr];rfl
   have hO:askO P k b wr=if back P k b=true then [putN P k (gone P k b).1,askN P k b wr] else [askN P k b wr]:=by unfold askO;rw [if_pos hg]
   have hS:askS P k b wr={ ss:=if (gone P k b).2=true then (cdrop P.c k.ss (gone P k b).1.b).1 else k.ss,bs:=if back P k b=true then puts P.N P.m k.bs (gone P k b).1.b (gone P k b).1.d (gone P k b).1.h else k.bs,ms:=k.ms,d:=k.d,ask:=askN P k b wr,wt:=true }:=by unfold askS;rw [if_pos hg]
   rw [hE,hO,hS]
   have h1:gone P k b=cgoes P.c k.ss b:=rfl
   rw [h1]
   cases hG:(cgoes P.c k.ss b).2
   ·have hbk:back P k b=false:=by rw [back_mw,hG];rfl
    rw [hbk]
    exact send_free h _ b hB hG
   ·cases hW:mw (cgoes P.c k.ss b).1
    ·have hbk:back P k b=false:=by rw [back_mw,hG,hW];rfl
     rw [hbk]
     exact send_shared h _ b hB hG hW
    ·have hbk:back P k b=true:=by rw [back_mw,hG,hW];rfl
     rw [hbk]
     exact send_put h _ b hB hG hW (fun e=>hf ⟨hbk,e⟩)
 ·rw [hB,if_pos rfl] at hE
  have hg:goesOut P k b wr=false:=by unfold goesOut;rw [hE];rfl
  have hO:askO P k b wr=[]:=by unfold askO;rw [hg];rfl
  have hS:askS P k b wr=k:=by unfold askS;rw [hg];rfl
  rw [hE,hO,hS]
  exact (send_back h _ b hB).mono fun e w' ⟨he,v,hl,hm⟩=>⟨_,he,OutN.nil _ _,v,hl,hm⟩
variable (I:Inv P k)
include I
theorem ask_any (b:Int) (wr:Bool):Calls Tryz.prog 16 #[.pointer (some ⟨L.q,0,none⟩),.int .i64 b,.bool wr] w fun e w'=>∃ s,e = .returned (.tuple #[.bool (askR P k b wr),s,.int .i64 (askE P k b wr)])∧OutN w w' s (askO P k b wr)∧∃ v,LN w' { L with bv:=v } P (askS P k b wr)∧Mv w w' L v:=by
 have c1:=h.c1
 by_cases hb:b < 0 ∨ (P.N:Int) ≤ b
 ·have hE:askE P k b wr=2:=by unfold askE;rw [if_pos hb]
  have hg:goesOut P k b wr=false:=by unfold goesOut;rw [hE];rfl
  have hO:askO P k b wr=[]:=by unfold askO;rw [hg];rfl
  have hS:askS P k b wr=k:=by unfold askS;rw [hg];rfl
  have hR:askR P k b wr=false:=by unfold askR;rw [hE];rfl
  rw [hE,hO,hS,hR]
  have H:=qh h
  by_cases h0:b < 0
  ·have d0:decide (b < 0)=true:=by simp [h0]
   clear h I hb hE hg hO hS hR h0
   go_enter Tryz.func16,Tryz.ntmps16
   go_wp2_with fail
   go_ret3
   exact ⟨_,rfl,OutN.nil _ _,_,H.out,Mv.refl _ _⟩
  ·have d0:decide (b < 0)=false:=by simp [h0]
   have d1:decide ((P.N:Int) ≤ b)=true:=by simp;omega
   clear h I hb hE hg hO hS hR h0
   go_enter Tryz.func16,Tryz.ntmps16
   go_wp2_with fail
   go_ret3
   exact ⟨_,rfl,OutN.nil _ _,_,H.out,Mv.refl _ _⟩
 ·have d0:decide (b < 0)=false:=by simp;omega
  have d1:decide ((P.N:Int) ≤ b)=false:=by simp;omega
  have HW:=qh (waits_any h I)
  obtain ⟨a,ha⟩:∃ a,shown k=a:=⟨_,rfl⟩
  rw [ha] at HW
  have HV:Hid (∀ w1:World,w.grownBy w1 none→_):=qh fun w1 hg=>var_nt (w:=w) (w1:=w1) hg a
  rw [zn_na] at HV
  cases hw:k.wt
  ·rw [hw] at HW
   have HR:Hid (∀ W:World,w.grownBy W none→_):=qh fun W hg=>ready_any (h.grown hg) b wr
   cases hr:rdy P k b wr
   ·rw [hr] at HR
    have hR:askR P k b wr=false:=by unfold askR;rw [hr];simp
    have HS:Hid (∀ W:World,w.grownBy W none→_):=qh fun W hg=>(send_any (h.grown hg) b wr (by omega) hw hr).mono fun e w' ⟨s,he,ho,v,hl,hm⟩=>(⟨s,he,ho.since hg.size,v,hl,(Mv.of (L:=L) hg).trans hm⟩:∃ s,e=Ending.returned (.tuple #[s,.int .i64 (askE P k b wr)])∧OutN w w' s (askO P k b wr)∧∃ v,LN w' { L with bv:=v } P (askS P k b wr)∧Mv w w' L v)
    rw [hR]
    obtain ⟨ec,hec⟩:∃ x,askE P k b wr=x:=⟨_,rfl⟩
    rw [hec] at HS ⊢
    cases wr
    ·rw [show (if false=true then (2:Int) else 1)=1 from rfl] at HS
     clear h I hb hw hr hR hec ha
     go_enter Tryz.func16,Tryz.ntmps16
     go_wp2_with (first
      | (go_at_call 22;((with_reducible refine HW.out.mono ?_);rintro e w1 ⟨rfl,hg1⟩;have HV1:=qh (HV.out w1 hg1);clear hg1 HV))
      | ((with_reducible refine tt.store_any a (na zn) 9 27 w1.heap.size ?_ ?_ ?_ ?_ ?_);((rfl));((rfl));((exact HV1.out.1));((rfl)))
      | (go_at_call 51;((with_reducible refine (HR.out _ HV1.out.2.1).mono ?_);rintro e w2 ⟨rfl,hg2⟩;have HG2:=qh (grown_trans HV1.out.2.1 hg2);clear hg2))
      | (go_at_call 52;((with_reducible refine (HS.out _ HG2.out).mono ?_);rintro e w3 ⟨s,rfl,ho,v,hl,hm⟩;have HO:=qh ho;have HL:=qh hl;have HM:=qh hm;clear ho hl hm)))
     go_ret3
     exact ⟨s,rfl,HO.out,v,HL.out,HM.out⟩
    ·rw [show (if true=true then (2:Int) else 1)=2 from rfl] at HS
     clear h I hb hw hr hR hec ha
     go_enter Tryz.func16,Tryz.ntmps16
     go_wp2_with (first
      | (go_at_call 22;((with_reducible refine HW.out.mono ?_);rintro e w1 ⟨rfl,hg1⟩;have HV1:=qh (HV.out w1 hg1);clear hg1 HV))
      | ((with_reducible refine tt.store_any a (na zn) 9 27 w1.heap.size ?_ ?_ ?_ ?_ ?_);((rfl));((rfl));((exact HV1.out.1));((rfl)))
      | (go_at_call 51;((with_reducible refine (HR.out _ HV1.out.2.1).mono ?_);rintro e w2 ⟨rfl,hg2⟩;have HG2:=qh (grown_trans HV1.out.2.1 hg2);clear hg2))
      | (go_at_call 52;((with_reducible refine (HS.out _ HG2.out).mono ?_);rintro e w3 ⟨s,rfl,ho,v,hl,hm⟩;have HO:=qh ho;have HL:=qh hl;have HM:=qh hm;clear ho hl hm)))
     go_ret3
     exact ⟨s,rfl,HO.out,v,HL.out,HM.out⟩
   ·rw [hr] at HR
    have hE:askE P k b wr=0:=by unfold askE;rw [if_neg hb,if_neg (by rw [hw];decide),if_pos hr]
    have hg:goesOut P k b wr=false:=by unfold goesOut;rw [hr];simp
    have hO:askO P k b wr=[]:=by unfold askO;rw [hg];rfl
    have hS:askS P k b wr=k:=by unfold askS;rw [hg];rfl
    have hR:askR P k b wr=true:=by unfold askR;rw [hE,hr];rfl
    rw [hE,hO,hS,hR]
    have H:=qh h
    clear h I hb hw hr hE hg hO hS hR ha
    go_enter Tryz.func16,Tryz.ntmps16
    go_wp2_with (first
     | (go_at_call 22;((with_reducible refine HW.out.mono ?_);rintro e w1 ⟨rfl,hg1⟩;have HV1:=qh (HV.out w1 hg1);clear hg1 HV))
     | ((with_reducible refine tt.store_any a (na zn) 9 27 w1.heap.size ?_ ?_ ?_ ?_ ?_);((rfl));((rfl));((exact HV1.out.1));((rfl)))
     | (go_at_call 51;((with_reducible refine (HR.out _ HV1.out.2.1).mono ?_);rintro e w2 ⟨rfl,hg2⟩;have HG2:=qh (grown_trans HV1.out.2.1 hg2);clear hg2)))
    go_ret3
    exact ⟨_,rfl,OutN.nil _ _,_,H.out.grown HG2.out,Mv.of HG2.out⟩
  ·rw [hw] at HW
   have hE:askE P k b wr=8:=by unfold askE;rw [if_neg hb,if_pos hw]
   have hg:goesOut P k b wr=false:=by unfold goesOut;rw [hE];rfl
   have hO:askO P k b wr=[]:=by unfold askO;rw [hg];rfl
   have hS:askS P k b wr=k:=by unfold askS;rw [hg];rfl
   have hR:askR P k b wr=false:=by unfold askR;rw [hE];rfl
   rw [hE,hO,hS,hR]
   have H:=qh h
   clear h I hb hw hE hg hO hS hR ha
   go_enter Tryz.func16,Tryz.ntmps16
   go_wp2_with (first
    | (go_at_call 22;((with_reducible refine HW.out.mono ?_);rintro e w1 ⟨rfl,hg1⟩;have HV1:=qh (HV.out w1 hg1);clear hg1 HV))
    | ((with_reducible refine tt.store_any a (na zn) 9 27 w1.heap.size ?_ ?_ ?_ ?_ ?_);((rfl));((rfl));((exact HV1.out.1));((rfl))))
   go_ret3
   exact ⟨_,rfl,OutN.nil _ _,_,H.out.grown HV1.out.2.1,Mv.of HV1.out.2.1⟩
end
end Go.Proofs.YtcoimipgilkmbaaGreatDoor.nl
