/-
  The document's own deal: what its Begin, Over, Asked, Refused answer and make of it: contracts. No condition but the bounds that each theorem names.
  The document's own deal: what its Over answers and makes of it: contracts. No condition but the bounds that each theorem names.
-/
import Derived.Test.YtcoimipgilkmbaaGreatDoorTl
import Derived.Test.YtcoimipgilkmbaaGreatDoorDex
import Derived.Deep.Cut
namespace Go.Proofs.YtcoimipgilkmbaaGreatDoor.de
set_option linter.unusedVariables false
set_option linter.unusedSimpArgs false
set_option maxRecDepth 1000000
set_option maxHeartbeats 16000000
open Go Go.ChangeShapes Go.WideShapes Go.ChangeAt Go.RowKit
open Go.Proofs.YtcoimipgilkmbaaGreatDoor.tt (U zd row tyne add_lit lt_of range_grown setCells_rest heap_setCells heap_setCells_other grown_setCells grown_setRow grown_new grown_drewN below_of grown_alloc grown_refl grown_trans grown_drew)
open Go.Proofs.YtcoimipgilkmbaaGreatDoor.oo (ref flag' gives older ret_bool jump_ret)
section
variable {w:World} {g:Nat} {d:Dl}
theorem rbegin_any (I:Inv d) (h:Both w g d) (s:Sv) (x:Int):Calls Tryz.prog 72 #[.pointer (some ⟨g,0,none⟩),.agg (sa s),.int .u64 x] w fun e w'=>e = .returned (.int .i64 (bE d x))∧Both w' g (bD d s x)∧w.grownBy w' (some g):=by
 obtain ⟨s0,c,h,ha⟩:=h
 have hl:=h.lt
 have h0:=I.d0
 have h8:d.de ≤ 8:=Int.le_trans I.dn I.n8
 obtain ⟨w1,hw1⟩:∃ w1,w.alloc (.cells (sa s) 76)=w1:=⟨_,rfl⟩
 have hg1:w.grownBy w1 none:=hw1 ▸ grown_alloc (grown_refl _ _) _
 have h1:RAt w1 g (mir d s0 c):=h.grown hg1 (by simp)
 have HR:Hid (w1.rangeAt w.heap.size 0 (sl s)):=qh (hw1 ▸ sv_new w s _)
 have HW1:=qh hw1
 have HI:=qh I
 have HA:=qh ha
 obtain ⟨c0,c1,c19,c20,c21,c22⟩:=h1.cells
 have k0:w1.cell? ⟨g,0,none⟩=some (.int .i64 d.ne):=c0
 have k1:w1.cell? ⟨g,1,none⟩=some (.int .i64 d.de):=c1
 have k21:w1.cell? ⟨g,21,none⟩=some (.bool d.fa):=c21
 have H1:=qh h1
 have HG1:=qh hg1
 have HLT:=qh hl
 clear h hw1 hg1 h1 c0 c1 c19 c20 c21 c22 hl I ha
 by_cases hx:x=0
 ·subst hx
  clear k0 k1 k21
  have hE:bE d 0=2:=by simp [bE]
  go_enter Tryz.func72,Tryz.ntmps72
  go_wp2
  rw [HW1.out]
  go_ret
  exact ⟨ret_i hE.symm,by unfold bD;rw [hE];exact ⟨s0,c,H1.out,HA.out⟩,grown_to HG1.out⟩
 ·have hx':(x == 0)=false:=by simp [hx]
  cases hf:d.fa
  ·rw [hf] at k21
   by_cases hd:d.de=d.ne
   ·have hd':decide (d.ne ≤ d.de)=true:=by simp [hd]
    have hE:bE d x=7:=by simp [bE,hx,hf,hd]
    go_enter Tryz.func72,Tryz.ntmps72
    go_wp2_with (rw [HW1.out])
    go_big_quiet (fail)
    go_wp2
    go_ret
    exact ⟨ret_i hE.symm,by unfold bD;rw [hE];exact ⟨s0,c,H1.out.same rfl,HA.out⟩,grown_drewN (grown_to HG1.out) _⟩
   ·have hd':decide (d.ne ≤ d.de)=false:=by have:=HI.out.dn;simp;omega
    have hE:bE d x=0:=by simp [bE,hx,hf,hd]
    by_cases hz:d.de=0
    ·have HB:Hid (bD d s x={ opn d s x with de:=1 }):=qh (by unfold bD;rw [hE,if_pos rfl,if_pos hz])
     rw [hz] at k1 hd'
     have HZ:=qh hz
     have HF:=qh hf
     clear hz hd hx hf h0 h8
     go_enter Tryz.func72,Tryz.ntmps72
     go_wp2_with (rw [HW1.out])
     go_big_quiet (fail)
     generalize hw2:w1.drewN nq=w2
     have H2:Hid (RAt w2 g (mir d s0 c)):=qh (hw2 ▸ H1.out.same rfl)
     have HG2:Hid (w.grownBy w2 none):=qh (hw2 ▸ grown_drewN HG1.out _)
     have HR2:Hid (w2.rangeAt w.heap.size 0 (sl s)):=qh (hw2 ▸ HR.out)
     have hne:g ≠ w.heap.size:=by have:=HLT.out;omega
     obtain ⟨w3,hw3⟩:∃ w3,w2.setCell ⟨g,1,none⟩ (.int .i64 1)=w3:=⟨_,rfl⟩
     have h3:RAt w3 g { mir d s0 c with de:=1 }:=hw3 ▸ H2.out.put_de 1
     have HT3:Hid (w3.there g 2 17):=qh h3.there
     have k1:w3.cell? ⟨g,1,none⟩=some (.int .i64 1):=h3.cells.2.1
     have HR3:Hid (w3.rangeAt w.heap.size 0 (sl s)):=qh (range_grown HR2.out (hw3 ▸ grown_setCell w2 g 1 (.int .i64 1)) (by simpa using hne.symm))
     obtain ⟨w4,hw4⟩:∃ w4,w3.setCells g 2 (sl s)=w4:=⟨_,rfl⟩
     have h4:RAt w4 g { { mir d s0 c with de:=1 } with s:=s }:=hw4 ▸ h3.put_s s
     have k20:=h4.cells.2.2.2.1
     have k19:w4.cell? ⟨g,19,none⟩=some (.int .u64 d.st):=h4.cells.2.2.1
     have f20:=h4.free 20
     have f19:=h4.free 19
     have c1:w2.cell? ⟨g,1,none⟩=some (.int .i64 d.de):=H2.out.cells.2.1
     rw [HZ.out] at c1
     have f1:=H2.out.free 1
     have HG4:Hid (w.grownBy w4 (some g)):=qh (grown_trans (grown_trans (grown_to HG2.out) (hw3 ▸ grown_setCell _ _ _ _)) (hw4 ▸ grown_setCells _ _ _ _))
     have H4:=qh h4
     have HW2:=qh hw2
     have HW3:=qh hw3
     have HW4:=qh hw4
     clear hw2 hw3 hw4 h3 h4
     by_cases ht:d.st=0
     ·have HO:Hid (opn d s x={ d with s:=s,st:=x }):=qh (by unfold opn;rw [if_pos ht])
      rw [ht] at k19
      clear ht
      go_wp2_with (first
       | (rw [HW3.out];(with_reducible refine load_sv s _ _ 0 ?_ HR3.out ?_);((rfl)))
       | ((with_reducible refine store_mid s _ _ g 2 ?_ ?_ HT3.out ?_);((rfl));((rfl));rw [HW4.out]))
      go_ret
      have hfl:=HI.out.fl0 HZ.out
      have hfa:=HF.out
      rw [HB.out,HO.out]
      refine ⟨rfl,⟨s,c,?_,fun _=>rfl,fun h=>by rw [show (_:Bool)=_ from hfa] at h;cases h⟩,grown_trans HG4.out (grown_trans (grown_setCell _ _ _ _) (grown_setCell _ _ _ _))⟩
      have e:mir { { d with s:=s,st:=x } with de:=1 } s c={ { { { mir d s0 c with de:=1 } with s:=s } with fl:=false } with st:=x }:=by simp [mir,hfl]
      rw [e]
      exact (H4.out.put_fl false).put_st x
     ·have ht':(d.st == 0)=false:=by simp [ht]
      have HO:Hid (opn d s x={ d with s:=s,st:=d.st }):=qh (by unfold opn;rw [if_neg ht])
      clear ht
      go_wp2_with (first
       | (rw [HW3.out];(with_reducible refine load_sv s _ _ 0 ?_ HR3.out ?_);((rfl)))
       | ((with_reducible refine store_mid s _ _ g 2 ?_ ?_ HT3.out ?_);((rfl));((rfl));rw [HW4.out]))
      go_ret
      have hfl:=HI.out.fl0 HZ.out
      have hfa:=HF.out
      rw [HB.out,HO.out]
      refine ⟨rfl,⟨s,c,?_,fun _=>rfl,fun h=>by rw [show (_:Bool)=_ from hfa] at h;cases h⟩,grown_trans HG4.out (grown_setCell _ _ _ _)⟩
      have e:mir { { d with s:=s,st:=d.st } with de:=1 } s c={ { { { mir d s0 c with de:=1 } with s:=s } with fl:=false } with st:=d.st }:=by simp [mir,hfl]
      rw [e]
      exact H4.out.put_fl false
    ·have HB:Hid (bD d s x={ d with de:=d.de + 1 }):=qh (by unfold bD;rw [hE,if_pos rfl,if_neg hz])
     have hz1:decide (1 < d.de + 1)=true:=decide_eq_true (by omega)
     have f1:=H1.out.free 1
     have HZ:=qh hz
     clear hz hd hx
     go_enter Tryz.func72,Tryz.ntmps72
     go_wp2_with (rw [HW1.out])
     go_big_quiet (fail)
     go_wp2
     go_ret
     rw [HB.out]
     exact ⟨ret_i hE.symm,⟨s0,c,(H1.out.same (w':=w1.drewN _) rfl).put_de _,fun _=>HA.out.1 HZ.out,HA.out.2⟩,grown_trans (grown_drewN (grown_to HG1.out) _) (grown_setCell _ _ _ _)⟩
  ·rw [hf] at k21
   have hE:bE d x=8:=by simp [bE,hx,hf]
   go_enter Tryz.func72,Tryz.ntmps72
   go_wp2_with (rw [HW1.out])
   go_ret
   exact ⟨ret_i hE.symm,by unfold bD;rw [hE];exact ⟨s0,c,H1.out,HA.out⟩,grown_to HG1.out⟩
theorem rrefused_any (I:Inv d) (h:Both w g d) (x:Int) (hx:0 ≤ x):Calls Tryz.prog 117 #[.pointer (some ⟨g,0,none⟩),.int .u64 x] w fun e w'=>e = .returned (.bool (rF d x))∧∃ n,w'=w.drewN n:=by
 have HV:Hid (∀ n,_):=qh fun n=>oo.gives_ref d.st d.fl x I.stp hx (w.drewN n)
 obtain ⟨c0,c1,c19,c20,c21⟩:=h.cells
 have k1:∀ n,(w.drewN n).cell? ⟨g,1,none⟩=some (.int .i64 d.de):=fun _=>c1
 have k19:∀ n,(w.drewN n).cell? ⟨g,19,none⟩=some (.int .u64 d.st):=fun _=>c19
 have k20:∀ n,(w.drewN n).cell? ⟨g,20,none⟩=some (.bool d.fl):=fun _=>c20
 have k21:∀ n,(w.drewN n).cell? ⟨g,21,none⟩=some (.bool d.fa):=fun _=>c21
 by_cases hz:0 < d.de
 ·have hz':decide (0 < d.de)=true:=decide_eq_true hz
  cases hf:d.fa
  ·have HB:Hid (rF d x=gives d.st d.fl x):=qh (by
    have:gE d=0:=by unfold gE;rw [if_neg (by simp [hf];omega)]
    unfold rF;rw [this];simp)
   rw [hf] at k21 c21
   clear h c0 hx hf hz I
   go_enter Tryz.func117,Tryz.ntmps117
   go_wp2_with fail
   go_quiet (first
    | (go_at_call 154;exact Calls.quiet_of_same ((HV.out _).mono fun _ _ he=>⟨he.1,he.2.symm⟩)))
   go_wp2_with fail
   go_ret
   exact ⟨ret_bool HB.out.symm,_,rfl⟩
  ·have HB:Hid (rF d x=false):=qh (by
    have:gE d=8:=by unfold gE;rw [if_pos (.inr hf)]
    unfold rF;rw [this];simp)
   rw [hf] at k21 c21
   clear h c0 hx hf hz I
   go_enter Tryz.func117,Tryz.ntmps117
   go_wp2_with fail
   go_quiet (fail)
   go_wp2_with fail
   go_ret
   exact ⟨ret_bool HB.out.symm,_,rfl⟩
 ·have h0:d.de=0:=by have:=I.d0;omega
  have HB:Hid (rF d x=false):=qh (by
   have:gE d=8:=by unfold gE;rw [if_pos (.inl h0)]
   unfold rF;rw [this];simp)
  simp only [h0] at c1 k1
  clear h c0 hx hz I h0
  go_enter Tryz.func117,Tryz.ntmps117
  go_wp2_with fail
  go_quiet (fail)
  go_wp2_with fail
  go_ret
  exact ⟨ret_bool HB.out.symm,_,rfl⟩
theorem rasked_any (I:Inv d) (h:Both w g d) (m:Bool) (x:Int) (hx:0 ≤ x):Calls Tryz.prog 155 #[.pointer (some ⟨g,0,none⟩),.bool m,.int .u64 x] w fun e w'=>e = .returned (.bool (ref (sT d) m))∧Both w' g (aD d m x)∧w.grownBy w' (some g):=by
 have HV:Hid (∀ n,_):=qh fun n=>oo.asked_ref (sT d) d.fl m x (sT_pos I) hx (w.drewN n)
 have HS:Hid (∀ n,_):=qh fun n=>rstamp_any (h.same (w':=w.drewN n) rfl)
 obtain ⟨c0,c1,c19,c20,c21⟩:=h.cells
 obtain ⟨s,c,h,ha⟩:=h
 have k20:∀ n,(w.drewN n).cell? ⟨g,20,none⟩=some (.bool d.fl):=fun _=>c20
 have f20:∀ n,(w.drewN n).frozen? ⟨g,20,none⟩=false:=fun _=>h.free 20
 have H:=qh (And.intro h ha)
 clear h ha c0 c1 c19 c21 hx I
 go_enter Tryz.func155,Tryz.ntmps155
 go_wp2_with fail
 go_quiet (first
  | (go_at_call 29;exact Calls.quiet_of_same ((HS.out _).mono fun _ _ he=>⟨he.1,he.2.symm⟩))
  | (go_at_call 177;exact Calls.quiet_of_same ((HV.out _).mono fun _ _ he=>⟨he.1,he.2.symm⟩)))
 go_wp2_with fail
 go_ret
 exact ⟨rfl,⟨s,c,(H.out.1.same (w':=w.drewN _) rfl).put_fl _,H.out.2.1,H.out.2.2⟩,grown_trans (grown_drewN (grown_refl _ _) _) (grown_setCell _ _ _ _)⟩
end
end Go.Proofs.YtcoimipgilkmbaaGreatDoor.de

namespace Go.Proofs.YtcoimipgilkmbaaGreatDoor.de
set_option linter.unusedVariables false
set_option linter.unusedSimpArgs false
set_option maxRecDepth 1000000
set_option maxHeartbeats 16000000
open Go Go.ChangeShapes Go.WideShapes Go.ChangeAt Go.RowKit
open Go.Proofs.YtcoimipgilkmbaaGreatDoor.tt (U zd row tyne add_lit lt_of range_grown setCells_rest heap_setCells heap_setCells_other grown_setCells grown_setRow grown_new grown_drewN below_of grown_alloc grown_refl grown_trans grown_drew)
open Go.Proofs.YtcoimipgilkmbaaGreatDoor.oo (ref flag' gives older ret_bool jump_ret)
section
variable {w:World} {g:Nat} {d:Dl}
theorem rover_any (I:Inv d) (h:Both w g d):Calls Tryz.prog 75 #[.pointer (some ⟨g,0,none⟩)] w fun e w'=>e = .returned (.tuple #[.agg (sa (oS d)),.int .u32 (oC d),.int .i64 (oE d)])∧Both w' g (oD d)∧w.grownBy w' (some g):=by
 obtain ⟨s0,c,h,ha⟩:=h
 have hl:=h.lt
 obtain ⟨w1,hw1⟩:∃ w1,w.alloc (.cells (sa zs) 76)=w1:=⟨_,rfl⟩
 have hg1:w.grownBy w1 none:=hw1 ▸ grown_alloc (grown_refl _ _) _
 have hb1:w1.heap[w.heap.size]?=some (.cells (sa zs) 76 (0,0)):=hw1 ▸ heap_alloc_new _ _
 have h1:RAt w1 g (mir d s0 c):=h.grown hg1 (by simp)
 have hne:g ≠ w.heap.size:=by omega
 obtain ⟨c0,c1,c19,c20,c21,c22⟩:=h1.cells
 have k21:w1.cell? ⟨g,21,none⟩=some (.bool d.fa):=c21
 have k22:w1.cell? ⟨g,22,none⟩=some (.int .u32 c):=c22
 have ht:=there_new hb1 (sa_size _)
 have H1:=qh h1
 have HW1:=qh hw1
 have HG1:=qh hg1
 have HI:=qh I
 have HA:=qh ha
 clear h hl hw1 hg1 hb1 c0 c21 c22 I ha
 cases hf:d.fa
 ·rw [hf] at k21
  have HV:Hid (oS d=zs∧oC d=0∧oE d=8∧oD d=d):=qh (by simp [oS,oC,oE,oD,hf])
  have HT:Hid (w1.there w.heap.size 0 17):=qh ht
  clear h1 hf k22 c1 c19 c20 ht
  obtain ⟨Z,hZ⟩:∃ Z,Z=zs:=⟨_,rfl⟩
  have hA:=zs_sa.symm
  rw [← hZ] at hA HV HW1
  clear hZ
  go_enter Tryz.func75,Tryz.ntmps75
  go_upto_region 1 with fail
  rw [HW1.out]
  go_wp2_with (first
   | ((with_reducible refine store_mid Z _ _ w.heap.size 0 ?_ ?_ HT.out ?_);((rfl));((rfl))))
  refine ret_sv3 rfl _ Z _ _ w.heap.size _ _ rfl rfl rfl (World.rangeAt_setCells_same _ _ _ _ (by rw [sl_len];exact HT.out)) ?_
  obtain ⟨v1,v2,v3,v4⟩:=HV.out
  rw [v1,v2,v3,v4]
  exact ⟨rfl,⟨s0,c,H1.out.grown (grown_setCells _ _ _ _) (by simpa using hne),HA.out⟩,grown_to (grown_new2 HG1.out (Nat.le_refl _) (grown_setCells _ _ _ _))⟩
 ·rw [hf] at k21
  have hcd:c=d.ca:=HA.out.2 hf
  subst hcd
  have hsd:s0=d.s:=HA.out.1 (fun e=>by have:=HI.out.fa0 e;rw [hf] at this;cases this)
  subst hsd
  have f1:=h1.free 1
  have f19:=h1.free 19
  have f20:=h1.free 20
  have f21:=h1.free 21
  have ca0:=HI.out.cap
  have ca1:=HI.out.cau
  have HV:Hid (oS d=d.s∧oC d=d.ca∧oE d=0∧oD d=cl d (kp d)):=qh (by simp [oS,oC,oE,oD,hf])
  by_cases hc:d.ca % 256=1
  ·have HK:Hid (kp d=d.st):=qh (by unfold kp;rw [and255 _ ca0 ca1,if_pos hc])
   obtain ⟨w2,hw2⟩:∃ w2,((w1.setCell ⟨g,21,none⟩ (.bool false)).setCell ⟨g,1,none⟩ (.int .i64 0)).setCell ⟨g,20,none⟩ (.bool false)=w2:=⟨_,rfl⟩
   have h2:RAt w2 g (mir (cl d d.st) d.s d.ca):=by
    have:=((H1.out.put_fa false).put_de 0).put_fl false
    rw [hw2] at this
    exact this
   have hg2:w1.grownBy w2 (some g):=hw2 ▸ grown_trans (grown_trans (grown_setCell _ _ _ _) (grown_setCell _ _ _ _)) (grown_setCell _ _ _ _)
   have ht2:w2.there w.heap.size 0 17:=there_grown ht hg2 (by simpa using hne.symm)
   obtain ⟨w3,hw3⟩:∃ w3,w2.drew.setCells w.heap.size 0 (sl d.s)=w3:=⟨_,rfl⟩
   have ht3:w2.drew.there w.heap.size 0 17:=ht2
   have hg3:w2.drew.grownBy w3 (some w.heap.size):=hw3 ▸ grown_setCells _ _ _ _
   have h3:RAt w3 g (mir (cl d d.st) d.s d.ca):=(h2.same (w':=w2.drew) rfl).grown hg3 (by simpa using hne)
   have HR3:Hid (w3.rangeAt w.heap.size 0 (sl d.s)):=qh (hw3 ▸ World.rangeAt_setCells_same _ _ _ _ (by rw [sl_len];exact ht3))
   have HT3:Hid (w3.there w.heap.size 0 17):=qh (hw3 ▸ World.there_setCells ht3 _ _ _)
   have HG3:Hid (w.grownBy w3 (some g)):=qh (grown_new2 (grown_drewN (grown_trans (grown_to HG1.out) hg2) 1) (Nat.le_refl _) hg3)
   have HW2:=qh hw2
   have HW3:=qh hw3
   have H3:=qh h3
   have HK0:Hid (w2.rangeAt g 2 (sl d.s)∧w2.cell? ⟨g,22,none⟩=some (.int .u32 d.ca)∧w2.there w.heap.size 0 17):=qh ⟨h2.save,h2.cells.2.2.2.2.2,ht2⟩
   have HK1:Hid (w2.drew.rangeAt g 2 (sl d.s)∧w2.drew.cell? ⟨g,22,none⟩=some (.int .u32 d.ca)∧w2.drew.there w.heap.size 0 17):=qh ⟨h2.save,h2.cells.2.2.2.2.2,ht2⟩
   have HK2:Hid ((w2.drew.setCells w.heap.size 0 (sl d.s)).rangeAt g 2 (sl d.s)∧(w2.drew.setCells w.heap.size 0 (sl d.s)).cell? ⟨g,22,none⟩=some (.int .u32 d.ca)∧(w2.drew.setCells w.heap.size 0 (sl d.s)).there w.heap.size 0 17):=qh ⟨by rw [HW3.out];exact h3.save,by rw [HW3.out];exact h3.cells.2.2.2.2.2,by rw [HW3.out];exact HT3.out⟩
   have hc':(d.ca % 256 == 1)=true:=by simpa using hc
   have hc2:(d.ca % 256 != 1)=false:=by simpa using hc
   obtain ⟨Z,hZ⟩:∃ Z,Z=zs:=⟨_,rfl⟩
   have hA:=zs_sa.symm
   rw [← hZ] at hA HW1
   clear hZ hw2 h2 hg2 ht2 hw3 ht3 hg3 h3 hf ht h1 hc
   go_enter Tryz.func75,Tryz.ntmps75
   go_upto_region 1 with fail
   rw [HW1.out]
   go_wp2_with fail
   rw [HW2.out]
   obtain ⟨t,nn,HT,hagg,hsize,hld,hsz,hst⟩:=named
   have hsz:=hsz d.s
   have hst:=hst w.heap.size 0 d.s
   have hld:=hld g 2 d.s
   rw [HT.out.1,HT.out.2]
   go_region_held (fun w'=>w'.rangeAt g 2 (sl d.s)∧w'.cell? ⟨g,22,none⟩=some (.int .u32 d.ca)∧w'.there w.heap.size 0 17) (first | exact HK0.out | exact HK1.out | exact HK2.out) (fail)
   rw [HW3.out]
   go_wp2_with fail
   refine ret_sv3 rfl _ d.s _ _ w.heap.size _ _ rfl rfl rfl HR3.out ?_
   obtain ⟨v1,v2,v3,v4⟩:=HV.out
   rw [v1,v2,v3,v4,HK.out]
   exact ⟨rfl,⟨d.s,d.ca,H3.out,fun h=>(h rfl).elim,fun h=>(by cases h)⟩,HG3.out⟩
  ·have HK:Hid (kp d=0):=qh (by unfold kp;rw [and255 _ ca0 ca1,if_neg hc])
   obtain ⟨w2,hw2⟩:∃ w2,(((w1.setCell ⟨g,21,none⟩ (.bool false)).setCell ⟨g,1,none⟩ (.int .i64 0)).setCell ⟨g,20,none⟩ (.bool false)).setCell ⟨g,19,none⟩ (.int .u64 0)=w2:=⟨_,rfl⟩
   have h2:RAt w2 g (mir (cl d 0) d.s d.ca):=by
    have:=(((H1.out.put_fa false).put_de 0).put_fl false).put_st 0
    rw [hw2] at this
    exact this
   have hg2:w1.grownBy w2 (some g):=hw2 ▸ grown_trans (grown_trans (grown_trans (grown_setCell _ _ _ _) (grown_setCell _ _ _ _)) (grown_setCell _ _ _ _)) (grown_setCell _ _ _ _)
   have ht2:w2.there w.heap.size 0 17:=there_grown ht hg2 (by simpa using hne.symm)
   obtain ⟨w3,hw3⟩:∃ w3,w2.drew.setCells w.heap.size 0 (sl d.s)=w3:=⟨_,rfl⟩
   have ht3:w2.drew.there w.heap.size 0 17:=ht2
   have hg3:w2.drew.grownBy w3 (some w.heap.size):=hw3 ▸ grown_setCells _ _ _ _
   have h3:RAt w3 g (mir (cl d 0) d.s d.ca):=(h2.same (w':=w2.drew) rfl).grown hg3 (by simpa using hne)
   have HR3:Hid (w3.rangeAt w.heap.size 0 (sl d.s)):=qh (hw3 ▸ World.rangeAt_setCells_same _ _ _ _ (by rw [sl_len];exact ht3))
   have HT3:Hid (w3.there w.heap.size 0 17):=qh (hw3 ▸ World.there_setCells ht3 _ _ _)
   have HG3:Hid (w.grownBy w3 (some g)):=qh (grown_new2 (grown_drewN (grown_trans (grown_to HG1.out) hg2) 1) (Nat.le_refl _) hg3)
   have HW2:=qh hw2
   have HW3:=qh hw3
   have H3:=qh h3
   have HK0:Hid (w2.rangeAt g 2 (sl d.s)∧w2.cell? ⟨g,22,none⟩=some (.int .u32 d.ca)∧w2.there w.heap.size 0 17):=qh ⟨h2.save,h2.cells.2.2.2.2.2,ht2⟩
   have HK1:Hid (w2.drew.rangeAt g 2 (sl d.s)∧w2.drew.cell? ⟨g,22,none⟩=some (.int .u32 d.ca)∧w2.drew.there w.heap.size 0 17):=qh ⟨h2.save,h2.cells.2.2.2.2.2,ht2⟩
   have HK2:Hid ((w2.drew.setCells w.heap.size 0 (sl d.s)).rangeAt g 2 (sl d.s)∧(w2.drew.setCells w.heap.size 0 (sl d.s)).cell? ⟨g,22,none⟩=some (.int .u32 d.ca)∧(w2.drew.setCells w.heap.size 0 (sl d.s)).there w.heap.size 0 17):=qh ⟨by rw [HW3.out];exact h3.save,by rw [HW3.out];exact h3.cells.2.2.2.2.2,by rw [HW3.out];exact HT3.out⟩
   have hc':(d.ca % 256 == 1)=false:=by simpa using hc
   have hc2:(d.ca % 256 != 1)=true:=by simpa using hc
   obtain ⟨Z,hZ⟩:∃ Z,Z=zs:=⟨_,rfl⟩
   have hA:=zs_sa.symm
   rw [← hZ] at hA HW1
   clear hZ hw2 h2 hg2 ht2 hw3 ht3 hg3 h3 hf ht h1 hc
   go_enter Tryz.func75,Tryz.ntmps75
   go_upto_region 1 with fail
   rw [HW1.out]
   go_wp2_with fail
   rw [HW2.out]
   obtain ⟨t,nn,HT,hagg,hsize,hld,hsz,hst⟩:=named
   have hsz:=hsz d.s
   have hst:=hst w.heap.size 0 d.s
   have hld:=hld g 2 d.s
   rw [HT.out.1,HT.out.2]
   go_region_held (fun w'=>w'.rangeAt g 2 (sl d.s)∧w'.cell? ⟨g,22,none⟩=some (.int .u32 d.ca)∧w'.there w.heap.size 0 17) (first | exact HK0.out | exact HK1.out | exact HK2.out) (fail)
   rw [HW3.out]
   go_wp2_with fail
   refine ret_sv3 rfl _ d.s _ _ w.heap.size _ _ rfl rfl rfl HR3.out ?_
   obtain ⟨v1,v2,v3,v4⟩:=HV.out
   rw [v1,v2,v3,v4,HK.out]
   exact ⟨rfl,⟨d.s,d.ca,H3.out,fun h=>(h rfl).elim,fun h=>(by cases h)⟩,HG3.out⟩
end
end Go.Proofs.YtcoimipgilkmbaaGreatDoor.de
