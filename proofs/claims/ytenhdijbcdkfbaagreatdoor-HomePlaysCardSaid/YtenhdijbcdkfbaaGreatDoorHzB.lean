/-
 The law HomePlays returns true: the walk. Condition: the tables lie in their variables as the program's text has them; the notes lie where the argument says.
-/
import Derived.Test.YtenhdijbcdkfbaaGreatDoorTl
import Derived.Test.YtenhdijbcdkfbaaGreatDoorHzA
namespace Go.Proofs.YtenhdijbcdkfbaaGreatDoor.hh
set_option linter.unusedVariables false
set_option linter.unusedSimpArgs false
set_option maxRecDepth 1000000
set_option maxHeartbeats 16000000
open Go Go.ChangeShapes Go.WideShapes Go.ChangeAt Go.RowKit
open Go.Proofs.YtenhdijbcdkfbaaGreatDoor.tt (Nt Cfg fits net bare zd usd uses coreOf ok_ends MapAt mput mdel ik NPool NSl Turn flat na nt zn grown_alloc grown_refl grown_trans tyne lt_of)
open Go.Proofs.YtenhdijbcdkfbaaGreatDoor.en (En gets back asked asks free ask_parts may_parts ea)
open Go.Proofs.YtenhdijbcdkfbaaGreatDoor.mm (wi wo ones wo_lt)
theorem play_long (c:Cfg) (ad:Option Addr) (len cap:Nat) (cp:Bool) (w:World) (T:Tabs w) (h:300 < len):Calls Tryz.prog 3 #[.agg c.cells,.slice ad len cap,.bool cp] w fun e w'=>e = .returned (.bool true)∧w.grownBy w' none:=by
 have hd:decide ((300:Int) < (len:Int))=true:=by simp;omega
 have hg0:w.grownBy (w.alloc (.cells c.cells 23)) none:=grown_alloc (grown_refl _ _) _
 have HW:Hid (∀ w',w.grownBy w' none→_):=qh (fun w' h=>works_any w' (T.grown h))
 have HG0:=qh hg0
 clear T h hg0
 unfold Cfg.cells at *
 go_enter Tryz.func3,Tryz.ntmps3
 go_wp2_with (go_at_call 4;((with_reducible refine (HW.out _ HG0.out).mono ?_);rintro e w3 ⟨rfl,hgw3⟩;have Gw3:=qh (grown_trans HG0.out hgw3);clear hgw3))
 go_ret
 exact ⟨rfl,Gw3.out⟩
theorem play_none (c:Cfg) (ad:Option Addr) (len cap:Nat) (cp:Bool) (w:World) (T:Tabs w) (h:len ≤ 300) (hb:c.bl < 1 ∨ 256 < c.bl):Calls Tryz.prog 3 #[.agg c.cells,.slice ad len cap,.bool cp] w fun e w'=>e = .returned (.bool true)∧w.grownBy w' none:=by
 have hd:decide ((300:Int) < (len:Int))=false:=by simp;omega
 have hg0:w.grownBy (w.alloc (.cells c.cells 23)) none:=grown_alloc (grown_refl _ _) _
 have HW:Hid (∀ w',w.grownBy w' none→_):=qh (fun w' h=>works_any w' (T.grown h))
 have HG0:=qh hg0
 have HA:=qh (tt.cfg_at w c)
 have HMN:Hid (∀ w,_):=qh fun w=>pp.new_err c.bl w hb
 have HRN:Hid (∀ w,_):=qh fun w=>pp.rnew_err c.bl w hb
 have HN:Hid (∀ w,_):=qh fun w=>new_nil c w
 obtain ⟨c0,c1,c2,c3,c4,c5,c6,c7⟩:=HA.out
 clear T h hg0 hb
 unfold Cfg.cells at HN HG0 HA c0 c1 c2 c3 c4 c5 c6 c7 ⊢
 go_enter Tryz.func3,Tryz.ntmps3
 go_wp2_with (first
  | (go_at_call 5;((with_reducible refine (HMN.out _).mono ?_);rintro e w2 ⟨rfl,rfl⟩))
  | (go_at_call 6;((with_reducible refine (HRN.out _).mono ?_);rintro e w3 ⟨rfl,rfl⟩))
  | (go_at_call 7;((with_reducible refine (HN.out _).mono ?_);rintro e w4 ⟨rfl,hg4⟩;have G4:=qh (grown_trans HG0.out hg4);clear hg4))
  | (go_at_call 4;((with_reducible refine (HW.out _ G4.out).mono ?_);rintro e w5 ⟨rfl,hg5⟩;have G5:=qh (grown_trans G4.out hg5);clear hg5)))
 go_ret
 exact ⟨rfl,G5.out⟩
theorem play_no (c:Cfg) (ad:Option Addr) (len cap:Nat) (cp:Bool) (w:World) (T:Tabs w) (h:len ≤ 300) (n:Nat) (hn:c.bl=(n:Int)) (h1:1 ≤ n) (h2:n ≤ 256) (hm:¬ c.may):Calls Tryz.prog 3 #[.agg c.cells,.slice ad len cap,.bool cp] w fun e w'=>e = .returned (.bool true)∧w.grownBy w' none:=by
 have hd:decide ((300:Int) < (len:Int))=false:=by simp;omega
 have hg0:w.grownBy (w.alloc (.cells c.cells 23)) none:=grown_alloc (grown_refl _ _) _
 have HW:Hid (∀ w',w.grownBy w' none→_):=qh (fun w' h=>works_any w' (T.grown h))
 have HG0:=qh hg0
 have HA:=qh (tt.cfg_at w c)
 have HMN:Hid (∀ w,_):=qh fun w=>pp.new_ok n w h1 h2
 have HRN:Hid (∀ w,_):=qh fun w=>pp.rnew_ok n w h1 h2
 rw [← hn] at HMN HRN
 have HMY:Hid (∀ w',_):=qh fun w'=>tt.rmay_any c w'
 rw [decide_eq_false hm] at HMY
 have HN:Hid (∀ w1 mb mv bs,w.grownBy w1 none→pp.Mem w1 mb mv bs→_):=qh fun w1 mb mv bs hg hM=>new_bad c mb mv bs w1 hM (T.grown hg).t hm
 obtain ⟨c0,c1,c2,c3,c4,c5,c6,c7⟩:=HA.out
 clear T h hg0 hm hn h1 h2
 unfold Cfg.cells at HN HMY HG0 HA c0 c1 c2 c3 c4 c5 c6 c7 ⊢
 go_enter Tryz.func3,Tryz.ntmps3
 go_wp2_with (first
  | (go_at_call 5;((with_reducible refine (HMN.out _).mono ?_);rintro e w2 ⟨mb,mv,rfl,hM,hg2,hmb,hmv⟩;have HM:=qh hM;have G2:=qh (grown_trans HG0.out hg2);obtain ⟨d0,d1,d2,d3,d4,d5,d6,d7⟩:=HA.out.grown hg2;have HA2:=qh (HA.out.grown hg2);clear hM hg2 hmb hmv c0 c1 c2 c3 c4 c5 c6 c7))
  | (go_at_call 6;((with_reducible refine (HRN.out _).mono ?_);rintro e w3 ⟨rb,rv,rfl,hR,hg3,hrb,hrv⟩;have HM3:=qh (HM.out.grown hg3 (fun k e=>by cases e));have G3:=qh (grown_trans G2.out hg3);obtain ⟨e0,e1,e2,e3,e4,e5,e6,e7⟩:=HA2.out.grown hg3;have HA3:=qh (HA2.out.grown hg3);clear hR hg3 hrb hrv d0 d1 d2 d3 d4 d5 d6 d7))
  | (go_at_call 7;((with_reducible refine (HN.out _ _ _ _ G3.out HM3.out).mono ?_);rintro e w4 ⟨rfl,hg4⟩;have G4:=qh (grown_trans G3.out hg4);obtain ⟨f0,f1,f2,f3,f4,f5,f6,f7⟩:=HA3.out.grown hg4;clear hg4 e0 e1 e2 e3 e4 e5 e6 e7))
  | (go_at_call 8;((with_reducible refine (HMY.out _).mono ?_);rintro e w5 ⟨rfl,hg5⟩;have G5:=qh (grown_trans G4.out hg5);clear hg5))
  | (go_at_call 4;((with_reducible refine (HW.out _ G5.out).mono ?_);rintro e w6 ⟨rfl,hg6⟩;have G6:=qh (grown_trans G5.out hg6);clear hg6)))
 go_ret
 exact ⟨rfl,G6.out⟩
theorem rmem_new {c:Cfg} (h:c.may) (w:World):Calls Tryz.prog 6 #[.int .i64 c.bl] w fun e w'=>∃ b v,e = .returned (.tuple #[.pointer (some ⟨b,0,none⟩),.int .i64 0])∧pp.RMem w' b v (m0 c)∧w.grownBy w' none∧w.heap.size ≤ b∧∀ k,v.ownBlock=some k→w.heap.size ≤ k:=by
 have h1:=tt.hb_bounds (h.1 3 (by omega))
 have h2:(1:Int) ≤ c.bl∧c.bl ≤ 256:=h1
 have:=pp.rnew_ok c.bl.toNat w (by omega) (by omega)
 rw [show ((c.bl.toNat:Nat):Int)=c.bl by omega] at this
 exact this
theorem play_some (c:Cfg) (ad:Option Addr) (len cap:Nat) (cp:Bool) (w:World) (T:Tabs w) (ns:List Nt) (hlen:len=ns.length) (hat:NotesAt w ad ns) (hw:∀ n ∈ ns,Word n) (h:len ≤ 300) (hm:c.may):Calls Tryz.prog 3 #[.agg c.cells,.slice ad len cap,.bool cp] w fun e w'=>e = .returned (.bool true)∧w.grownBy w' none:=by
 have hd:decide ((300:Int) < (len:Int))=false:=by simp;omega
 have hg0:w.grownBy (w.alloc (.cells c.cells 23)) none:=grown_alloc (grown_refl _ _) _
 have HW:Hid (∀ w',w.grownBy w' none→_):=qh (fun w' h=>works_any w' (T.grown h))
 have HG0:=qh hg0
 have HA:=qh (tt.cfg_at w c)
 have HMY:Hid (∀ w',_):=qh fun w'=>tt.rmay_any c w'
 rw [decide_eq_true hm] at HMY
 have HMN:Hid (∀ w,_):=qh fun w=>mem_new hm w
 have HRM:Hid (∀ w,_):=qh fun w=>rmem_new hm w
 have HN:Hid (∀ w1 mb mv,(w.alloc (.cells c.cells 23)).grownBy w1 none→pp.Mem w1 mb mv (m0 c)→(∀ i,mv.ownBlock=some i→(w.alloc (.cells c.cells 23)).heap.size ≤ i)→_):=qh fun w1 mb mv hg hM hv=>own_new (T.grown hg0) hg hM hv hm (m0_len hm)
 have HRN:Hid (∀ w1 mb mv,pp.RMem w1 mb mv (m0 c)→gs ≤ w1.heap.size→(∀ i,mv.ownBlock=some i→gs ≤ i)→_):=qh fun w1 mb mv hM hs hv=>rnew_any (c:=c) (mb:=mb) (mv:=mv) (mm:=m0 c) hM hm (by unfold m0;simp) (by intro r hr;unfold m0 at hr;rw [(List.mem_replicate.1 hr).2];rfl) hs hv
 have HT:=qh (T.grown hg0)
 have HAT:=qh (fun w' (h:w.grownBy w' none)=>hat.grown h)
 have HL:=qh hlen
 have HW1:=qh hw
 have HH:=qh h
 have HMAY:=qh hm
 obtain ⟨c0,c1,c2,c3,c4,c5,c6,c7⟩:=HA.out
 clear T h hm hg0 hat hlen hw
 unfold Cfg.cells at HN HRN HG0 HA HMY HT c0 c1 c2 c3 c4 c5 c6 c7 ⊢
 go_enter Tryz.func3,Tryz.ntmps3
 go_wp2_with (first
  | (go_at_call 5;((with_reducible refine (HMN.out _).mono ?_);rintro e w2 ⟨mb,mv,rfl,hM,hg2,hmb,hmv⟩;have HM:=qh hM;have HMV:=qh hmv;have G2:=qh hg2;obtain ⟨d0,d1,d2,d3,d4,d5,d6,d7⟩:=HA.out.grown hg2;have HA2:=qh (HA.out.grown hg2);clear hM hg2 hmb hmv c0 c1 c2 c3 c4 c5 c6 c7))
  | (go_at_call 6;((with_reducible refine (HRM.out _).mono ?_);rintro e w3 ⟨rb,rv,rfl,hR,hg3,hrb,hrv⟩;have HM3:=qh (HM.out.grown hg3 (fun k e=>by cases e));have HR3:=qh hR;have HRV:=qh (fun i hi=>Nat.le_trans G2.out.size (hrv i hi));have HRA:=qh (fun i (hi:rv.ownBlock=some i)=>hrv i hi);have G3:=qh (grown_trans G2.out hg3);obtain ⟨e0,e1,e2,e3,e4,e5,e6,e7⟩:=HA2.out.grown hg3;have HA3:=qh (HA2.out.grown hg3);clear hR hg3 hrb hrv d0 d1 d2 d3 d4 d5 d6 d7))
  | (go_at_call 7;((with_reducible refine (HN.out _ _ _ G3.out HM3.out HMV.out).mono ?_);rintro e w4 ⟨h,F,rfl,hO,hFm,hFv,hg4⟩;have HO4:=qh hO;have HFM:=qh hFm;have HFV:=qh hFv;have HR4:=qh (HR3.out.kept hg4);have G4:=qh (grown_trans G3.out hg4);obtain ⟨f0,f1,f2,f3,f4,f5,f6,f7⟩:=HA3.out.grown hg4;have HA4:=qh (HA3.out.grown hg4);clear hO hFm hFv hg4 e0 e1 e2 e3 e4 e5 e6 e7))
  | (go_at_call 8;((with_reducible refine (HMY.out _).mono ?_);rintro e w5 ⟨rfl,hg5⟩;have HO5:=qh (HO4.out.grown hg5);have HR5:=qh (HR4.out.kept hg5);have G5:=qh (grown_trans G4.out hg5);obtain ⟨p0,p1,p2,p3,p4,p5,p6,p7⟩:=HA4.out.grown hg5;have HA5:=qh (HA4.out.grown hg5);clear hg5 f0 f1 f2 f3 f4 f5 f6 f7))
  | (go_at_call 9;((with_reducible refine (HRN.out _ _ _ HR5.out (Nat.le_trans HT.out.gs_le G5.out.size) (fun i hi=>Nat.le_trans HT.out.gs_le (HRV.out i hi))).mono ?_);rintro e w6 ⟨q,ev,jv,rfl,hr6,hg6,hq6,he6,hj6⟩;have HO6:=qh (HO5.out.grown hg6);have HR6:=qh hr6;have HA6:=qh (HA5.out.grown hg6);have HQ6:=qh hq6;have HE6:=qh he6;have HJ6:=qh hj6;clear hr6 hg6 hq6 he6 hj6 p0 p1 p2 p3 p4 p5 p6 p7))
  | fail)
 clear HN HMN HMY HRN HRM HA2 HA3 HA4 HA5 HA6 HM HM3 HMV HR3 G2 G3 HO4 HR4
 obtain ⟨G,hG⟩:∃ G:Fr,G=⟨rb,rv,ev,jv,.slice none 0 0⟩:=⟨_,rfl⟩
 have HGM:Hid (G.mb=rb):=qh (by rw [hG])
 have hgo:∀ i,G.own q i→i=q ∨ rv.ownBlock=some i ∨ ev.ownBlock=some i ∨ jv.ownBlock=some i:=fun i hi=>by
  rw [hG] at hi;exact hi
 obtain ⟨wb,hwb⟩:∃ wb,w.alloc (.cells #[.int .i64 c.co,.int .i64 c.se,.int .i64 c.wa,.int .i64 c.bl,.int .i64 c.lo,.int .i64 c.ba,.int .i64 c.ne,.int .i64 c.tr] 23)=wb:=⟨_,rfl⟩
 rw [hwb] at HG0 HA HT HO5 HO6 HRV G5
 have HAT:=qh fun (w':World) (h:wb.grownBy w' none)=>HAT.out w' (grown_trans HG0.out h)
 have HW:=qh fun (w':World) (h:wb.grownBy w' none)=>HW.out w' (grown_trans HG0.out h)
 have HFIN:=qh fun (w':World) (h:wb.grownBy w' none)=>grown_trans HG0.out h
 clear hwb HG0
 obtain ⟨H0,hH0⟩:∃ H0,H0=new c (m0 c):=⟨_,rfl⟩
 have HB6:Hid (Both wb w6 h q c F G H0):=qh ⟨by rw [hH0];exact HO6.out,by rw [hH0,hG];exact HR6.out,fun i hi=>⟨fun e=>by
   have hl:=HO5.out.at'.own_lt hi
   rcases hgo i e with e | e | e | e
   ·have:=HQ6.out;omega
   ·obtain ⟨cs,hcs⟩:=HR5.out.bl i e
    exact HO5.out.at'.not_own hcs (by decide) (by decide) (by decide) (by decide) hi
   ·have:=HE6.out i e;omega
   ·have:=HJ6.out i e;omega,fun e=>by rw [hG] at e;simp [Value.ownBlock] at e⟩,fun i e=>by
   have hs5:=G5.out.size
   rcases hgo i e with e | e | e | e
   ·have:=HQ6.out;omega
   ·exact HRV.out i e
   ·have:=HE6.out i e;omega
   ·have:=HJ6.out i e;omega⟩
 clear hG hgo hH0 HO5 HO6 HR5 HR6 HQ6 HE6 HJ6 HRV G4 G5 HFV
 go_loopw [73,11] (fun i hv wr=>∃ (j h:Nat) (F:Ft) (G:Fr) (H:Hm),j ≤ len∧i = .int .i64 (j:Int)∧hv = .pointer (some ⟨h,0,none⟩)∧Both wb wr h q c F G H∧G.mb=rb∧(cp=false→F.mb=mb)) (fun i _ _=>len - (intOf i).toNat)
 case atStart=>exact ⟨0,h,F,G,H0,Nat.zero_le _,rfl,rfl,HB6.out,HGM.out,fun _=>HFM.out⟩
 case round=>
  clear HB6 HGM HFM
  obtain ⟨j,h,F,G,H,hj,rfl,rfl,hb,hgm,hfm⟩:=hrel
  have HO:=qh hb
  have HGM:=qh hgm
  have HFM:=qh hfm
  clear hb hgm hfm
  have hj300:j ≤ 300:=by have:=HH.out;omega
  have HWT:Hid (H.wt.length ≤ 65536):=qh (Nat.le_trans HO.out.own.at'.full (room_le HMAY.out).2.1)
  by_cases hlt:j < len
  ·obtain ⟨n,hn⟩:∃ n,ns[j]?=some n:=⟨_,List.getElem?_eq_getElem (by have:=HL.out;omega)⟩
   obtain ⟨b,off,rfl,hr⟩:=HAT.out _ HO.out.own.old j n hn
   have HR:=qh hr
   have HB2:=qh (HO.out.grown (w2:=wr.alloc (.cells (na n) 45)) (grown_alloc (grown_refl _ _) _))
   have HV2:Hid ((wr.alloc (.cells (na n) 45)).heap[wr.heap.size]?=some (.cells (na n) 45 (0,0))):=qh (heap_alloc_new _ _)
   have HNV:Hid (¬ F.own wr.heap.size):=qh (fun e=>by have:=HO.out.own.at'.own_lt e;omega)
   have HWN:=qh (HW1.out n (List.mem_of_getElem? hn))
   clear hn hr
   go_wp2_with (first
    | ((with_reducible refine tt.load_na n _ b (off + j * 24) ?_ HR.out ?_);(rfl))
    | ((with_reducible refine tt.store_new n _ _ _ ?_ ?_ ?_ ?_);(rfl);(rfl);(rfl))
    | fail)
   obtain ⟨X2,hX2⟩:∃ W,wr.alloc (.cells (na n) 45)=W:=⟨_,rfl⟩
   rw [hX2] at HB2 HV2 ⊢
   clear hX2
   obtain ⟨t',m24,HTT,hagg,hsize,hld⟩:=tt.named
   have HLD:Hid (∀ W:World,W.heap[wr.heap.size]?=some (.cells (na n) 45 (0,0))→(loadCellsFrom ⟨wr.heap.size,0,none⟩ 0 m24 #[]).run Tryz.prog W = .ok (na n) W):=qh fun W h=>hld _ n W (tt.range_of h)
   clear hld
   rw [HTT.out]
   refine wp_region_held_drew (S:=fun W=>(loadCellsFrom ⟨wr.heap.size,0,none⟩ 0 m24 #[]).run Tryz.prog W = .ok (na n) W) (by kernel_rfl) (HLD.out _ HV2.out) (fun hHeld=>?_)
   have HB0:=qh (HB2.out.grown (tt.grown_drew (grown_refl _ _)))
   have HV0:Hid (X2.drew.heap[wr.heap.size]?=_):=qh HV2.out
   generalize X2.drew=W0 at hHeld HB0 HV0 ⊢
   clear HB2 HV2
   refine tl 0 ?_ rfl ?_ ?_ (tl 1 ?_ rfl ?_ ?_ ?_)
   iterate 2 (rotate_left;(next=>(try simp only [lay]);((intro w0 hSw;have hs1:=hSw;go_simp);try (with_reducible rfl)));next=>rfl)
   try simp only [lay]
   refine tl 3 ?_ rfl ?_ ?_ (tl 4 ?_ rfl ?_ ?_ ?_)
   iterate 2 (rotate_left;(next=>(try simp only [lay]);((intro w0 hSw;have hs1:=hSw;go_simp);try (with_reducible rfl)));next=>rfl)
   try simp only [lay]
   refine rd 2 rfl fun K hK=>?_
   go_simp
   have HC1:=qh (ready_any HB0.out.own.at' (HB0.out.own.tabs HT.out).k n)
   obtain ⟨E0,hE0⟩:∃ E,E=ready c H n:=⟨_,rfl⟩
   rw [← hE0] at HC1
   have HE0:=qh hE0
   clear hE0
   (with_reducible refine HC1.out.mono ?_);rintro e w3 ⟨rfl,hg3⟩
   have HB3:=qh (HB0.out.grown hg3)
   have HV3:=qh ((hg3.block _ (lt_of HV0.out) (by simp)).trans HV0.out)
   clear hg3 HC1 HB0 HV0
   go_wp2_with fail
   refine hK.out _ _ (HLD.out _ HV3.out) (fun hHeld=>?_)
   clear hK K
   try simp only [lay]
   refine rd 5 rfl fun K hK=>?_
   go_simp
   have HC2:=qh (rready_any HB3.out.ref n)
   rw [← HE0.out] at HC2
   (with_reducible refine HC2.out.mono ?_);rintro e w4 ⟨rfl,hg4⟩
   have HB4:=qh (HB3.out.grown hg4)
   have HV4:=qh ((hg4.block _ (lt_of HV3.out) (by simp)).trans HV3.out)
   clear hg4 HC2 HB3 HV3
   go_wp2_with fail
   refine hK.out _ _ (HLD.out _ HV4.out) (fun hHeld=>?_)
   clear hK K
   try simp only [lay]
   have e0:(E0 != E0)=false:=by simp
   refine tl 6 ?_ rfl ?_ ?_ ?_
   (rotate_left;(next=>((intro w0 hSw;go_simp);try (with_reducible rfl)));next=>rfl)
   try simp only [lay]
   refine wpAnyH_done (by kernel_rfl) ?_ _
   clear hHeld e0 hagg hsize HLD HE0 HTT
   cases cp with
   | false=>
    obtain ⟨E,hE⟩:∃ E,E=(take c H n).2.2:=⟨_,rfl⟩
    obtain ⟨os,hos⟩:∃ l,l=(take c H n).2.1:=⟨_,rfl⟩
    obtain ⟨H',hH'⟩:∃ x,x=(take c H n).1:=⟨_,rfl⟩
    have HLO:Hid (os.length ≤ 65536):=qh (by rw [hos];exact Nat.le_trans (take_len HO.out.own.at' n) (by omega))
    have HTA:Hid (∀ (W:World) (h:Nat) (F:Ft),Both wb W h q c F G H→_):=qh fun W h F B=>both_take (h:=h) (F:=F) HT.out B n HWN.out
    have HHE:=qh hH'
    rw [← hE,← hos,← hH'] at HTA
    have HTB:Hid (∀ (W:World) (h:Nat) (F':Ft) (v:Value),Own wb W h c F' H'→RefAt W q c G H→Ap F' G q→NSl W v os→(∀ k,v.ownBlock=some k→¬ G.own q k)→_):=qh fun W h F' v O A ap hs hv=>both_rtake (h:=h) (F':=F') (v:=v) (ns:=os) O A ap HO.out.fr hs hv n HWN.out HWT.out HHE.out
    rw [← hE,← hos] at HTB
    clear hE hos hH'
    go_wp2_with (first
     | ((with_reducible refine tt.load_nt n _ wr.heap.size ?_ (tt.range_of HV4.out) ?_);(rfl))
     | ((with_reducible refine tt.load_nt n _ wr.heap.size ?_ (tt.range_of HV5.out) ?_);(rfl))
     | (go_at_call 13;((with_reducible refine (HTA.out _ _ _ HB4.out).mono ?_);rintro e w5 ⟨F5,v5,rfl,ho5,hr5,ha5,hs5,hv5,hmb5,hk5⟩;have HO5:=qh ho5;have HR5:=qh hr5;have HAP5:=qh ha5;have HS5:=qh hs5;have HN5:=qh hv5;have HMB5:=qh hmb5;have HV5:=qh (hk5 _ _ HV4.out HNV.out);obtain ⟨adv,capv,hform⟩:=hs5.form;obtain ⟨nv,hnv⟩:∃ k,k=os.length:=⟨_,rfl⟩;rw [← hnv] at hform;subst hform;have HNV5:=qh hnv;clear ho5 hr5 ha5 hs5 hv5 hmb5 hk5 hnv))
     | (go_at_call 14;((with_reducible refine (HTB.out _ _ _ _ HO5.out HR5.out HAP5.out HS5.out HN5.out).mono ?_);rintro e w6 ⟨G6,v6,rfl,hb6,hs6,ht6,hmb6⟩;have HB6:=qh hb6;have HS6:=qh hs6;have HT6:=qh ht6;have HMB6:=qh hmb6;obtain ⟨adu,capu,hform⟩:=ht6.form;rw [← HNV5.out] at hform;subst hform;clear hb6 hs6 ht6 hmb6 HO5 HR5 HAP5 HN5 HS5))
     | fail)
    clear HTA HTB
    obtain ⟨lw,hlw⟩:∃ k,k=H'.wt.length:=⟨_,rfl⟩
    obtain ⟨adw,capw,hwform⟩:=HB6.out.ref.wt.form
    rw [← hlw] at hwform
    have hc11:=HB6.out.ref.parts.2.2.2
    rw [hwform] at hc11
    have HWA:=qh (waits_any HB6.out.own.at')
    have HLW:=qh hlw
    clear hwform hlw
    refine wp_region_held_drew (S:=fun W=>W.cell? ⟨q,11,none⟩=some (.slice adw lw capw)) (by kernel_rfl) hc11 (fun hHeld=>?_)
    have HB0:=qh (HB6.out.grown (tt.grown_drew (grown_refl _ _)))
    have HS0:=qh (HS6.out.grown (tt.grown_drew (grown_refl _ _)))
    have HT0:=qh (HT6.out.grown (tt.grown_drew (grown_refl _ _)))
    generalize w6.drew=W0 at hHeld HB0 HS0 HT0 ⊢
    clear HB6 HS6 HT6 hc11
    have e0:(E != E)=false:=by simp
    have e1:((lw:Int) != (lw:Int))=false:=by simp
    refine tl 0 ?_ rfl ?_ ?_ (tl 1 ?_ rfl ?_ ?_ (tl 2 ?_ rfl ?_ ?_ ?_))
    iterate 3 (rotate_left;(next=>(try simp only [lay]);((intro w0 hSw;go_simp);try (with_reducible rfl)));next=>rfl)
    try simp only [lay]
    refine tl 3 ?_ rfl ?_ ?_ (tl 4 ?_ rfl ?_ ?_ (tl 5 ?_ rfl ?_ ?_ ?_))
    iterate 3 (rotate_left;(next=>(try simp only [lay]);((intro w0 hSw;go_simp);try (with_reducible rfl)));next=>rfl)
    try simp only [lay]
    refine rd 6 rfl fun K hK=>?_
    go_simp
    (with_reducible refine (tt.equal_yes (.slice adv nv capv) (.slice adu nv capu) os _ HS0.out HT0.out HLO.out).mono ?_);rintro e w7 ⟨rfl,hg7⟩
    have HB7:=qh (HB0.out.grown hg7)
    have hs7:w7.cell? ⟨q,11,none⟩=some (.slice adw lw capw):=hg7.cell hHeld (by simp)
    clear hg7 HB0 HS0 HT0
    go_wp2_with fail
    refine hK.out _ _ (hs7) (fun hHeld=>?_)
    clear hK K
    try simp only [lay]
    refine tl 7 ?_ rfl ?_ ?_ (tl 8 ?_ rfl ?_ ?_ (tl 9 ?_ rfl ?_ ?_ ?_))
    iterate 3 (rotate_left;(next=>(try simp only [lay]);((intro w0 hSw;have hs1:=hSw;go_simp);try (with_reducible rfl)));next=>rfl)
    try simp only [lay]
    refine tl 10 ?_ rfl ?_ ?_ (tl 12 ?_ rfl ?_ ?_ ?_)
    iterate 2 (rotate_left;(next=>(try simp only [lay]);((intro w0 hSw;have hs1:=hSw;go_simp);try (with_reducible rfl)));next=>rfl)
    try simp only [lay]
    refine tl 13 ?_ rfl ?_ ?_ (tl 14 ?_ rfl ?_ ?_ ?_)
    iterate 2 (rotate_left;(next=>(try simp only [lay]);((intro w0 hSw;have hs1:=hSw;go_simp);try (with_reducible rfl)));next=>rfl)
    try simp only [lay]
    refine tl 15 ?_ rfl ?_ ?_ (tl 16 ?_ rfl ?_ ?_ ?_)
    iterate 2 (rotate_left;(next=>(try simp only [lay]);((intro w0 hSw;have hs1:=hSw;go_simp);try (with_reducible rfl)));next=>rfl)
    try simp only [lay]
    refine rd 11 rfl fun K hK=>?_
    go_simp
    have HC1:=qh (waits_any HB7.out.own.at')
    rw [← HLW.out] at HC1
    (with_reducible refine HC1.out.mono ?_);rintro e w8 ⟨rfl,hw8⟩
    have HB8:Hid (Both wb w8 _ q c F5 G6 H'):=qh (by rw [hw8];exact HB7.out)
    have hs8:w8.cell? ⟨q,11,none⟩=some (.slice adw lw capw):=(by rw [hw8];exact hs7)
    clear hw8 HC1 HB7 hs7
    go_wp2_with fail
    refine hK.out _ _ (hs8) (fun hHeld=>?_)
    clear hK K
    try simp only [lay]
    refine tl 17 ?_ rfl ?_ ?_ (tl 18 ?_ rfl ?_ ?_ ?_)
    iterate 2 (rotate_left;(next=>(try simp only [lay]);((intro w0 hSw;go_simp);try (with_reducible rfl)));next=>rfl)
    try simp only [lay]
    refine wpAnyH_done (by kernel_rfl) ?_ _
    clear hHeld e0 e1
    go_wp2_with fail
    go_roundw
    case rel=>exact ⟨j + 1,_,F5,G6,H',by omega,by go_num,rfl,HB8.out,HMB6.out.trans HGM.out,fun _=>HMB5.out.trans (by first | exact HFM.out rfl | exact HFM.out trivial)⟩
    case measure=>simp [intOf];omega
   | true=>
    obtain ⟨E,hE⟩:∃ E,E=(take c H n).2.2:=⟨_,rfl⟩
    obtain ⟨os,hos⟩:∃ l,l=(take c H n).2.1:=⟨_,rfl⟩
    obtain ⟨H',hH'⟩:∃ x,x=(take c H n).1:=⟨_,rfl⟩
    have HLO:Hid (os.length ≤ 65536):=qh (by rw [hos];exact Nat.le_trans (take_len HO.out.own.at' n) (by omega))
    have HTA:Hid (∀ (W:World) (h:Nat) (F:Ft),Both wb W h q c F G H→_):=qh fun W h F B=>both_take (h:=h) (F:=F) HT.out B n HWN.out
    have HHE:=qh hH'
    rw [← hE,← hos,← hH'] at HTA
    have HTB:Hid (∀ (W:World) (h:Nat) (F':Ft) (v:Value),Own wb W h c F' H'→RefAt W q c G H→Ap F' G q→NSl W v os→(∀ k,v.ownBlock=some k→¬ G.own q k)→_):=qh fun W h F' v O A ap hs hv=>both_rtake (h:=h) (F':=F') (v:=v) (ns:=os) O A ap HO.out.fr hs hv n HWN.out HWT.out HHE.out
    rw [← hE,← hos] at HTB
    clear hE hos hH'
    go_wp2_with (first
     | (go_at_call 12;((with_reducible refine (both_copy HB4.out).mono ?_);rintro e w9 ⟨h9,F9,rfl,hb9,ho9,hd9,ha9,hg9,hf9⟩;have HB9:=qh hb9;have HO9:=qh ho9;have HD9:=qh hd9;have HA9:=qh ha9;have HV9:=qh ((hg9.block _ (lt_of HV4.out) (by simp)).trans HV4.out);have HNV10:Hid (¬ F9.own wr.heap.size):=qh (fun e=>by have:=hf9 _ e;have:=lt_of HV4.out;omega);clear hb9 ho9 hd9 ha9 hg9 hf9))
     | ((with_reducible refine tt.load_nt n _ wr.heap.size ?_ (tt.range_of HV9.out) ?_);(rfl))
     | (go_at_call 13;((with_reducible refine (both_takec HT.out HB9.out HO9.out HD9.out HA9.out n HWN.out).mono ?_);rintro e w10 ⟨v10,x10,rfl,hb10,hk10⟩;have HB10:=qh hb10;have HV10:=qh (hk10 _ _ HV9.out HNV.out);clear hb10 hk10))
     | ((with_reducible refine tt.load_nt n _ wr.heap.size ?_ (tt.range_of HV10.out) ?_);(rfl))
     | ((with_reducible refine tt.load_nt n _ wr.heap.size ?_ (tt.range_of HV5.out) ?_);(rfl))
     | (go_at_call 13;((with_reducible refine (HTA.out _ _ _ HB10.out).mono ?_);rintro e w5 ⟨F5,v5,rfl,ho5,hr5,ha5,hs5,hv5,hmb5,hk5⟩;have HO5:=qh ho5;have HR5:=qh hr5;have HAP5:=qh ha5;have HS5:=qh hs5;have HN5:=qh hv5;have HMB5:=qh hmb5;have HV5:=qh (hk5 _ _ HV10.out HNV10.out);obtain ⟨adv,capv,hform⟩:=hs5.form;obtain ⟨nv,hnv⟩:∃ k,k=os.length:=⟨_,rfl⟩;rw [← hnv] at hform;subst hform;have HNV5:=qh hnv;clear ho5 hr5 ha5 hs5 hv5 hmb5 hk5 hnv))
     | (go_at_call 14;((with_reducible refine (HTB.out _ _ _ _ HO5.out HR5.out HAP5.out HS5.out HN5.out).mono ?_);rintro e w6 ⟨G6,v6,rfl,hb6,hs6,ht6,hmb6⟩;have HB6:=qh hb6;have HS6:=qh hs6;have HT6:=qh ht6;have HMB6:=qh hmb6;obtain ⟨adu,capu,hform⟩:=ht6.form;rw [← HNV5.out] at hform;subst hform;clear hb6 hs6 ht6 hmb6 HO5 HR5 HAP5 HN5 HS5))
     | fail)
    clear HTA HTB
    obtain ⟨lw,hlw⟩:∃ k,k=H'.wt.length:=⟨_,rfl⟩
    obtain ⟨adw,capw,hwform⟩:=HB6.out.ref.wt.form
    rw [← hlw] at hwform
    have hc11:=HB6.out.ref.parts.2.2.2
    rw [hwform] at hc11
    have HWA:=qh (waits_any HB6.out.own.at')
    have HLW:=qh hlw
    clear hwform hlw
    refine wp_region_held_drew (S:=fun W=>W.cell? ⟨q,11,none⟩=some (.slice adw lw capw)) (by kernel_rfl) hc11 (fun hHeld=>?_)
    have HB0:=qh (HB6.out.grown (tt.grown_drew (grown_refl _ _)))
    have HS0:=qh (HS6.out.grown (tt.grown_drew (grown_refl _ _)))
    have HT0:=qh (HT6.out.grown (tt.grown_drew (grown_refl _ _)))
    generalize w6.drew=W0 at hHeld HB0 HS0 HT0 ⊢
    clear HB6 HS6 HT6 hc11
    have e0:(E != E)=false:=by simp
    have e1:((lw:Int) != (lw:Int))=false:=by simp
    refine tl 0 ?_ rfl ?_ ?_ (tl 1 ?_ rfl ?_ ?_ (tl 2 ?_ rfl ?_ ?_ ?_))
    iterate 3 (rotate_left;(next=>(try simp only [lay]);((intro w0 hSw;go_simp);try (with_reducible rfl)));next=>rfl)
    try simp only [lay]
    refine tl 3 ?_ rfl ?_ ?_ (tl 4 ?_ rfl ?_ ?_ (tl 5 ?_ rfl ?_ ?_ ?_))
    iterate 3 (rotate_left;(next=>(try simp only [lay]);((intro w0 hSw;go_simp);try (with_reducible rfl)));next=>rfl)
    try simp only [lay]
    refine rd 6 rfl fun K hK=>?_
    go_simp
    (with_reducible refine (tt.equal_yes (.slice adv nv capv) (.slice adu nv capu) os _ HS0.out HT0.out HLO.out).mono ?_);rintro e w7 ⟨rfl,hg7⟩
    have HB7:=qh (HB0.out.grown hg7)
    have hs7:w7.cell? ⟨q,11,none⟩=some (.slice adw lw capw):=hg7.cell hHeld (by simp)
    clear hg7 HB0 HS0 HT0
    go_wp2_with fail
    refine hK.out _ _ (hs7) (fun hHeld=>?_)
    clear hK K
    try simp only [lay]
    refine tl 7 ?_ rfl ?_ ?_ (tl 8 ?_ rfl ?_ ?_ (tl 9 ?_ rfl ?_ ?_ ?_))
    iterate 3 (rotate_left;(next=>(try simp only [lay]);((intro w0 hSw;have hs1:=hSw;go_simp);try (with_reducible rfl)));next=>rfl)
    try simp only [lay]
    refine tl 10 ?_ rfl ?_ ?_ (tl 12 ?_ rfl ?_ ?_ ?_)
    iterate 2 (rotate_left;(next=>(try simp only [lay]);((intro w0 hSw;have hs1:=hSw;go_simp);try (with_reducible rfl)));next=>rfl)
    try simp only [lay]
    refine tl 13 ?_ rfl ?_ ?_ (tl 14 ?_ rfl ?_ ?_ ?_)
    iterate 2 (rotate_left;(next=>(try simp only [lay]);((intro w0 hSw;have hs1:=hSw;go_simp);try (with_reducible rfl)));next=>rfl)
    try simp only [lay]
    refine tl 15 ?_ rfl ?_ ?_ (tl 16 ?_ rfl ?_ ?_ ?_)
    iterate 2 (rotate_left;(next=>(try simp only [lay]);((intro w0 hSw;have hs1:=hSw;go_simp);try (with_reducible rfl)));next=>rfl)
    try simp only [lay]
    refine rd 11 rfl fun K hK=>?_
    go_simp
    have HC1:=qh (waits_any HB7.out.own.at')
    rw [← HLW.out] at HC1
    (with_reducible refine HC1.out.mono ?_);rintro e w8 ⟨rfl,hw8⟩
    have HB8:Hid (Both wb w8 _ q c F5 G6 H'):=qh (by rw [hw8];exact HB7.out)
    have hs8:w8.cell? ⟨q,11,none⟩=some (.slice adw lw capw):=(by rw [hw8];exact hs7)
    clear hw8 HC1 HB7 hs7
    go_wp2_with fail
    refine hK.out _ _ (hs8) (fun hHeld=>?_)
    clear hK K
    try simp only [lay]
    refine tl 17 ?_ rfl ?_ ?_ (tl 18 ?_ rfl ?_ ?_ ?_)
    iterate 2 (rotate_left;(next=>(try simp only [lay]);((intro w0 hSw;go_simp);try (with_reducible rfl)));next=>rfl)
    try simp only [lay]
    refine wpAnyH_done (by kernel_rfl) ?_ _
    clear hHeld e0 e1
    go_wp2_with fail
    go_roundw
    case rel=>exact ⟨j + 1,_,F5,G6,H',by omega,by go_num,rfl,HB8.out,HMB6.out.trans HGM.out,by simp⟩
    case measure=>simp [intOf];omega
  ·obtain ⟨wA,rfl⟩:∃ x,x=wr:=⟨wr,rfl⟩
   obtain ⟨LN,hLN⟩:∃ k,k=H.en.length:=⟨_,rfl⟩
   have hLc:(LN:Int)=c.data:=by rw [hLN];exact HO.out.own.at'.len
   have hLJ:H.jb.length=LN:=by rw [hLN,HO.out.ref.inv.le,HO.out.ref.inv.lj]
   have hd1:1 ≤ LN:=by have:=HMAY.out.2;omega
   obtain ⟨ge,oe,ce,hge,_,_⟩:=HO.out.ref.entAt (b:=0) (by omega)
   obtain ⟨gj,oj,cj,hgj,_,_⟩:=HO.out.ref.jobAt (b:=0) (by omega)
   have hL256:LN ≤ 256:=by have:=data_le HMAY.out;have h1:=tt.hb_bounds (HMAY.out.1 3 (by omega));have h2:(1:Int) ≤ c.bl∧c.bl ≤ 256:=h1;omega
   rw [← hLN] at hge
   rw [hLJ] at hgj
   have HGE:=qh hge
   have HGJ:=qh hgj
   have HLN:=qh hLN
   have HLC:=qh hLc
   have HLJ:=qh hLJ
   have hq9:=HO.out.ref.parts.2.1
   rw [hge] at hq9
   clear hge hgj hLN hLc hLJ hj hj300
   go_wp2_with fail
   clear hq9
   go_loopw [128] (fun i wq=>∃ k:Nat,k ≤ LN∧i = .int .i64 (k:Int)∧Both wb wq h q c F G H) (fun i _=>LN - (intOf i).toNat)
   case atStart=>exact ⟨0,Nat.zero_le _,rfl,HO.out⟩
   case round=>
    obtain ⟨k,hk,rfl,hbq⟩:=hrel
    have HQ:=qh hbq
    clear hbq
    by_cases hlk:k < LN
    ·have HEN:=qh (entry_in HQ.out.own.at' k (by rw [← HLN.out];exact hlk))
     have HF:Hid (∀ w3:World,wr.grownBy w3 none→w3.cell? ⟨q,9,none⟩=some (.slice (some ⟨ge,oe,none⟩) LN ce)∧w3.cell? ⟨ge,oe + k * 2,none⟩=some (.int .i64 (enOf H k).o)∧w3.cell? ⟨ge,oe + k * 2 + 1,none⟩=some (.int .u32 ((enOf H k).s:Int))∧w3.cell? ⟨q,10,none⟩=some (.slice (some ⟨gj,oj,none⟩) LN cj)∧w3.cell? ⟨gj,oj + k * 29,none⟩=some (.bool (jbOf H k).isSome)):=qh fun w3 hg=>by
      have A:=HQ.out.ref.grown hg
      obtain ⟨g1,o1,c1,e1,_,d1⟩:=A.entAt (b:=k) (by rw [← HLN.out];exact hlk)
      obtain ⟨g2,o2,c2,e2,_,d2⟩:=A.jobAt (b:=k) (by rw [HLJ.out];exact hlk)
      rw [HGE.out,← HLN.out] at e1
      rw [HGJ.out,HLJ.out] at e2
      have p1:=A.parts.2.1
      have p2:=A.parts.2.2.1
      rw [HGE.out] at p1
      rw [HGJ.out] at p2
      cases e1
      cases e2
      refine ⟨p1,d1 0 _ rfl,d1 1 _ rfl,p2,d2 0 _ ?_⟩
      cases jbOf H k <;> rfl
     obtain ⟨eo,heo⟩:∃ x,x=(enOf H k).o:=⟨_,rfl⟩
     obtain ⟨es,hes⟩:∃ x:Int,x=((enOf H k).s:Int):=⟨_,rfl⟩
     obtain ⟨IS,hIS⟩:∃ x,x=(jbOf H k).isSome:=⟨_,rfl⟩
     rw [← heo,← hes] at HEN
     rw [← heo,← hes,← hIS] at HF
     have HIS:=qh hIS.symm
     clear heo hes hIS
     go_wp2_with (first
      | (go_at_call 17;((with_reducible refine HEN.out.mono ?_);rintro e w2 ⟨rfl,hg2⟩;have HG2:=qh hg2;clear hg2))
      | fail)
     obtain ⟨w3,hw3⟩:∃ W,w2.alloc (.cells #[.int .i64 eo,.int .u32 es] 58)=W:=⟨_,rfl⟩
     have HX3:Hid (w3.heap[w2.heap.size]?=some (.cells #[.int .i64 eo,.int .u32 es] 58 (0,0))):=qh (by rw [← hw3];exact heap_alloc_new _ _)
     have HG3:Hid (wr.grownBy w3 none):=qh (by rw [← hw3];exact grown_alloc HG2.out _)
     rw [hw3]
     clear hw3
     have HB3:=qh (HQ.out.grown HG3.out)
     obtain ⟨B,hB⟩:∃ B,B=w2.heap.size:=⟨_,rfl⟩
     rw [← hB] at HX3 ⊢
     clear hB
     have k0:w3.cell? ⟨B,0,none⟩=some (.int .i64 eo):=by simp [World.cell?,HX3.out]
     have k1:w3.cell? ⟨B,1,none⟩=some (.int .u32 es):=by simp [World.cell?,HX3.out]
     obtain ⟨k2,k3,k4,k5,k6⟩:=HF.out w3 HG3.out
     have hne:=en.ne_same eo es
     clear HG2 HG3 HX3 HEN HF
     refine wp_region_held_drew (S:=fun W=>W.cell? ⟨B,0,none⟩=some (.int .i64 eo)∧W.cell? ⟨B,1,none⟩=some (.int .u32 es)∧W.cell? ⟨q,9,none⟩=some (.slice (some ⟨ge,oe,none⟩) LN ce)∧W.cell? ⟨ge,oe + k * 2,none⟩=some (.int .i64 eo)∧W.cell? ⟨ge,oe + k * 2 + 1,none⟩=some (.int .u32 es)∧W.cell? ⟨q,10,none⟩=some (.slice (some ⟨gj,oj,none⟩) LN cj)∧W.cell? ⟨gj,oj + k * 29,none⟩=some (.bool IS)) (by kernel_rfl) ⟨k0,k1,k2,k3,k4,k5,k6⟩ (fun hHeld=>?_)
     have HB0:=qh (HB3.out.grown (tt.grown_drew (grown_refl _ _)))
     generalize w3.drew=W0 at hHeld HB0 ⊢
     clear HB3 k0 k1 k2 k3 k4 k5 k6
     refine tl 0 ?_ rfl ?_ ?_ (tl 1 ?_ rfl ?_ ?_ (tl 2 ?_ rfl ?_ ?_ ?_))
     iterate 3 (rotate_left;(next=>(try simp only [lay]);((intro w0 hSw;obtain ⟨hs0,hs1,hs2,hs3,hs4,hs5,hs6⟩:=hSw;go_simp);try (with_reducible rfl)));next=>rfl)
     try simp only [lay]
     refine tl 3 ?_ rfl ?_ ?_ (tl 4 ?_ rfl ?_ ?_ (tl 5 ?_ rfl ?_ ?_ ?_))
     iterate 3 (rotate_left;(next=>(try simp only [lay]);((intro w0 hSw;obtain ⟨hs0,hs1,hs2,hs3,hs4,hs5,hs6⟩:=hSw;go_simp);try (with_reducible rfl)));next=>rfl)
     try simp only [lay]
     refine tl 6 ?_ rfl ?_ ?_ (tl 7 ?_ rfl ?_ ?_ ?_)
     iterate 2 (rotate_left;(next=>(try simp only [lay]);((intro w0 hSw;obtain ⟨hs0,hs1,hs2,hs3,hs4,hs5,hs6⟩:=hSw;go_simp);try (with_reducible rfl)));next=>rfl)
     try simp only [lay]
     refine tl 8 ?_ rfl ?_ ?_ (tl 9 ?_ rfl ?_ ?_ (tl 10 ?_ rfl ?_ ?_ ?_))
     iterate 3 (rotate_left;(next=>(try simp only [lay]);((intro w0 hSw;obtain ⟨hs0,hs1,hs2,hs3,hs4,hs5,hs6⟩:=hSw;go_simp);try (with_reducible rfl)));next=>rfl)
     try simp only [lay]
     refine tl 11 ?_ rfl ?_ ?_ (tl 12 ?_ rfl ?_ ?_ (tl 13 ?_ rfl ?_ ?_ ?_))
     iterate 3 (rotate_left;(next=>(try simp only [lay]);((intro w0 hSw;obtain ⟨hs0,hs1,hs2,hs3,hs4,hs5,hs6⟩:=hSw;go_simp);try (with_reducible rfl)));next=>rfl)
     try simp only [lay]
     refine tl 14 ?_ rfl ?_ ?_ (tl 15 ?_ rfl ?_ ?_ ?_)
     iterate 2 (rotate_left;(next=>(try simp only [lay]);((intro w0 hSw;obtain ⟨hs0,hs1,hs2,hs3,hs4,hs5,hs6⟩:=hSw;go_simp);try (with_reducible rfl)));next=>rfl)
     try simp only [lay]
     refine tl 17 ?_ rfl ?_ ?_ (tl 18 ?_ rfl ?_ ?_ (tl 19 ?_ rfl ?_ ?_ ?_))
     iterate 3 (rotate_left;(next=>(try simp only [lay]);((intro w0 hSw;obtain ⟨hs0,hs1,hs2,hs3,hs4,hs5,hs6⟩:=hSw;go_simp);try (with_reducible rfl)));next=>rfl)
     try simp only [lay]
     refine tl 20 ?_ rfl ?_ ?_ (tl 21 ?_ rfl ?_ ?_ (tl 22 ?_ rfl ?_ ?_ ?_))
     iterate 3 (rotate_left;(next=>(try simp only [lay]);((intro w0 hSw;obtain ⟨hs0,hs1,hs2,hs3,hs4,hs5,hs6⟩:=hSw;go_simp);try (with_reducible rfl)));next=>rfl)
     try simp only [lay]
     refine tl 23 ?_ rfl ?_ ?_ (tl 24 ?_ rfl ?_ ?_ ?_)
     iterate 2 (rotate_left;(next=>(try simp only [lay]);((intro w0 hSw;obtain ⟨hs0,hs1,hs2,hs3,hs4,hs5,hs6⟩:=hSw;go_simp);try (with_reducible rfl)));next=>rfl)
     try simp only [lay]
     refine rd 16 rfl fun K hK=>?_
     go_simp
     have HC1:=qh (own_busy HB0.out.own k)
     rw [HIS.out] at HC1
     (with_reducible refine HC1.out.mono ?_);rintro e w4 ⟨rfl,hg4⟩
     have HB4:=qh (HB0.out.grown hg4)
     obtain ⟨a0,a1,a2,a3,a4,a5,a6⟩:=hHeld
     have hHeld':w4.cell? ⟨B,0,none⟩=some (.int .i64 eo)∧w4.cell? ⟨B,1,none⟩=some (.int .u32 es)∧w4.cell? ⟨q,9,none⟩=some (.slice (some ⟨ge,oe,none⟩) LN ce)∧w4.cell? ⟨ge,oe + k * 2,none⟩=some (.int .i64 eo)∧w4.cell? ⟨ge,oe + k * 2 + 1,none⟩=some (.int .u32 es)∧w4.cell? ⟨q,10,none⟩=some (.slice (some ⟨gj,oj,none⟩) LN cj)∧w4.cell? ⟨gj,oj + k * 29,none⟩=some (.bool IS):=⟨hg4.cell a0 (by simp),hg4.cell a1 (by simp),hg4.cell a2 (by simp),hg4.cell a3 (by simp),hg4.cell a4 (by simp),hg4.cell a5 (by simp),hg4.cell a6 (by simp)⟩
     have HH4:=qh hHeld'
     clear hg4 HC1 HB0 a0 a1 a2 a3 a4 a5 a6 hHeld'
     go_wp2_with fail
     refine hK.out _ _ (HH4.out) (fun hHeld=>?_)
     clear hK K
     try simp only [lay]
     have e1:(IS != IS)=false:=by simp
     refine tl 25 ?_ rfl ?_ ?_ (tl 26 ?_ rfl ?_ ?_ ?_)
     iterate 2 (rotate_left;(next=>(try simp only [lay]);((intro w0 hSw;go_simp);try (with_reducible rfl)));next=>rfl)
     try simp only [lay]
     refine wpAnyH_done (by kernel_rfl) ?_ _
     clear hHeld hne e1
     go_wp2_with fail
     go_roundw
     case rel=>exact ⟨k + 1,by omega,by go_num,HB4.out⟩
     case measure=>simp [intOf];omega
    ·obtain ⟨wC,rfl⟩:∃ x,x=wr:=⟨wr,rfl⟩
     have hq9:=HQ.out.ref.parts.2.1
     rw [HGE.out] at hq9
     have HEO:=qh (entry_out HQ.out.own.at' (LN:Int) (by have:=HLC.out;omega))
     clear hk
     cases cp with
     | true=>
      go_wp2_with (first
       | (go_at_call 17;((with_reducible refine HEO.out.mono ?_);rintro e w2 ⟨rfl,hg2⟩;have HQ2:=qh (HQ.out.grown hg2);clear hg2))
       | (go_at_call 4;((with_reducible refine (HW.out _ HQ2.out.own.old).mono ?_);rintro e w5 ⟨rfl,hg5⟩;have G5:=qh (grown_trans HQ2.out.own.old hg5);clear hg5)))
      go_ret
      exact ⟨rfl,HFIN.out _ G5.out⟩
     | false=>
      obtain ⟨M,hM⟩:∃ M:Nat,c.bl=(M:Int):=⟨c.bl.toNat,by have:=tt.hb_bounds (HMAY.out.1 3 (by omega));have h2:(1:Int) ≤ c.bl∧c.bl ≤ 256:=this;omega⟩
      have hM256:M ≤ 256:=by have:=tt.hb_bounds (HMAY.out.1 3 (by omega));have h2:(1:Int) ≤ c.bl∧c.bl ≤ 256:=this;omega
      have HMC:=qh hM
      have HFB:Hid (F.mb=mb):=qh (by first | exact HFM.out rfl | exact HFM.out trivial)
      clear hM
      go_wp2_with (first
       | (go_at_call 17;((with_reducible refine HEO.out.mono ?_);rintro e w2 ⟨rfl,hg2⟩;have HQ2:=qh (HQ.out.grown hg2);obtain ⟨c0,c1,c2,c3,c4,c5,c6,c7⟩:=HA.out.grown HQ2.out.own.old;(rw [HMC.out] at c3);clear hg2))
       | fail)
      clear c0 c1 c2 c3 c4 c5 c6 c7
      go_loopw [179] (fun i wq=>∃ k:Nat,k ≤ M∧i = .int .i64 (k:Int)∧Both wb wq h q c F G H) (fun i _=>M - (intOf i).toNat)
      case atStart=>exact ⟨0,Nat.zero_le _,rfl,HQ2.out⟩
      case round=>
       clear HQ2
       obtain ⟨k,hk,rfl,hbq⟩:=hrel
       have HQ2:=qh hbq
       clear hbq
       by_cases hlk2:k < M
       ·obtain ⟨D,hD⟩:∃ D,D=pp.getB H.mm (k:Int):=⟨_,rfl⟩
        have HDL:Hid (D.length=16):=qh (by rw [hD];exact pp.getB_length HQ2.out.own.at'.mem _)
        have hm1:=HQ2.out.own.at'.mem
        rw [HFB.out] at hm1
        have HBK:=qh (pp.block_any hm1 (k:Int))
        have HRK:Hid (∀ w3:World,wr.grownBy w3 none→_):=qh fun w3 hg=>pp.rblock_any rb G.mv H.mm (k:Int) w3 (by have:=(HQ2.out.ref.grown hg).mem;rw [HGM.out] at this;exact this)
        rw [← hD] at HBK HRK
        have hqd:=fun w=>pp.q30 w D D HDL.out HDL.out
        rw [show (!(D == D))=false by simp] at hqd
        clear hm1 hD
        go_wp2_with (first
         | (go_at_call 19;((with_reducible refine HBK.out.mono ?_);rintro e w3 ⟨rfl,hg3⟩;have HG3:=qh (grown_alloc hg3 (.cells (pp.row D) 43));have HX3:Hid ((w3.alloc (.cells (pp.row D) 43)).heap[w3.heap.size]?=some (.cells (pp.row D) 43 (0,0))):=qh (heap_alloc_new _ _);clear hg3))
         | ((with_reducible refine pp.store_new' D _ _ ?_ ?_ HDL.out ?_);(rfl);(rfl))
         | (go_at_call 20;((with_reducible refine (HRK.out _ HG3.out).mono ?_);rintro e w4 ⟨rfl,hg4⟩;have HG4:=qh (grown_alloc (grown_trans HG3.out hg4) (.cells (pp.row D) 43));have HY4:Hid ((w4.alloc (.cells (pp.row D) 43)).heap[w4.heap.size]?=some (.cells (pp.row D) 43 (0,0))):=qh (heap_alloc_new _ _);have hx4:=(hg4.block _ (lt_of HX3.out) (by simp)).trans HX3.out;have HX4:=qh ((Below.heap_alloc _ (.cells (pp.row D) 43) _ (lt_of hx4)).trans hx4);clear hg4 hx4))
         | ((with_reducible refine pp.load_any D _ w3.heap.size ?_ HX4.out HDL.out ?_);(rfl))
         | ((with_reducible refine pp.load_any D _ w4.heap.size ?_ HY4.out HDL.out ?_);(rfl))
         | fail)
        go_roundw
        case rel=>exact ⟨k + 1,by omega,by go_num,HQ2.out.grown HG4.out⟩
        case measure=>simp [intOf];omega
       ·go_wp2_with (go_at_call 4;((with_reducible refine (HW.out _ HQ2.out.own.old).mono ?_);rintro e w5 ⟨rfl,hg5⟩;have G5:=qh (grown_trans HQ2.out.own.old hg5);clear hg5))
        go_ret
        exact ⟨rfl,HFIN.out _ G5.out⟩
theorem plays_true (c:Cfg) (ad:Option Addr) (len cap:Nat) (cp:Bool) (w:World) (T:Tabs w) (ns:List Nt) (hlen:len=ns.length) (hat:NotesAt w ad ns) (hw:∀ n ∈ ns,Word n):Calls Tryz.prog 3 #[.agg c.cells,.slice ad len cap,.bool cp] w fun e w'=>e = .returned (.bool true)∧w.grownBy w' none:=by
 by_cases h:300 < len
 ·exact play_long c ad len cap cp w T h
 ·by_cases hb:c.bl < 1 ∨ 256 < c.bl
  ·exact play_none c ad len cap cp w T (by omega) hb
  ·by_cases hm:c.may
   ·exact play_some c ad len cap cp w T ns hlen hat hw (by omega) hm
   ·exact play_no c ad len cap cp w T (by omega) c.bl.toNat (by omega) (by omega) (by omega) hm
end Go.Proofs.YtenhdijbcdkfbaaGreatDoor.hh
