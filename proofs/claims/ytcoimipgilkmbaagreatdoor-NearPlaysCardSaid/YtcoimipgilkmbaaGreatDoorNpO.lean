/-
 The law NearPlays returns true: the walk. Conditions: the tables of bounds and of kinds lie in their variables as the program's text has them; that the script lies where the argument says.
-/
import Derived.Test.YtcoimipgilkmbaaGreatDoorTl
import Derived.Test.YtcoimipgilkmbaaGreatDoorNpx
namespace Go.Proofs.YtcoimipgilkmbaaGreatDoor.py
set_option linter.unusedVariables false
set_option linter.unusedSimpArgs false
set_option maxRecDepth 1000000
set_option maxHeartbeats 16000000
open Go Go.ChangeShapes Go.WideShapes Go.ChangeAt Go.RowKit Go.Shelf
open Go.Proofs.YtcoimipgilkmbaaGreatDoor.nr
open Go.Proofs.YtcoimipgilkmbaaGreatDoor.nl
open Go.Proofs.YtcoimipgilkmbaaGreatDoor.tt (OpX opc OpsAt cfg_at CfgAt Cfg Nt na nt zn bare zd fits row tyne lt_of U Tab TabK grown_refl grown_trans grown_alloc grown_setCells grown_drew grown_drewN yes Sl Next flat)
open Go.Proofs.YtcoimipgilkmbaaGreatDoor.kk (Ln St zl la ln cfind cdrop cuse cgoes cwrite cturn cput setAt setOf live fF Shp Cac Kept)
open Go.Proofs.YtcoimipgilkmbaaGreatDoor.bk (Bk rem kills puts putE fd fl Nd Rg dead fresh BkAt)
open Go.Proofs.YtcoimipgilkmbaaGreatDoor.mrk (Ms rdS wrS meets addE Dom MkAt)
open Go.Proofs.YtcoimipgilkmbaaGreatDoor.de (Dl sT gE rF aD LAt)
open Go.Proofs.YtcoimipgilkmbaaGreatDoor.oo (ref)
theorem plays_some (P:Pm) (hP:Pok P) (os:List OpX) (ad:Option Addr) (len cap:Nat) (w:World) (hT:Tb w) (hlen:len=os.length) (hat:OpsAt w ad os) (h:len ≤ 300):Calls Tryz.prog 4 #[.agg P.c.cells,.int .i64 P.core,.slice ad len cap] w fun e w'=>e = .returned (.bool true)∧w.grownBy w' none:=by
 have hd:decide ((300:Int) < (len:Int))=false:=by simp;omega
 have hg0:w.grownBy (w.alloc (.cells P.c.cells 27)) none:=grown_alloc (grown_refl _ _) _
 have hcf:=cfg_at w P.c
 obtain ⟨CB,hCB⟩:∃ z,w.heap.size=z:=⟨_,rfl⟩
 obtain ⟨wb,hwb⟩:∃ z,w.alloc (.cells P.c.cells 27)=z:=⟨_,rfl⟩
 rw [hwb] at hg0 hcf
 rw [hCB] at hcf
 have HTB:=qh (hT.grown hg0)
 have HN:=qh (own_new P hP wb HTB.out)
 have HR:=qh fun (W:World)=>rnew_ok P hP W
 have HCF:=qh fun (W:World) (h:wb.grownBy W none)=>CfgAt.grown hcf h
 have HDA:=qh fun W=>tt.rdata_any P.c W hP.may.fits
 rw [hP.data] at HDA
 have HW:Hid (∀ W,wb.grownBy W none→_):=qh fun W h=>works_any W (HTB.out.grown h)
 have HAT:=qh fun (W:World) (h:wb.grownBy W none)=>(hat.grown hg0).grown h
 have HFIN:=qh fun (W:World) (h:wb.grownBy W none)=>grown_trans hg0 h
 have HLEN:=qh hlen
 have H300:=qh h
 have HP:=qh hP
 have HZO:Hid (opa opz=_):=qh opz_na
 have HNS:=qh (Inv.newS hP)
 have hN256:=hP.small
 obtain ⟨c0,c1,c2,c3,c4,c5,c6,c7⟩:=hcf
 clear hT hP hg0 hlen hat h
 unfold Cfg.cells at HN HR HDA hwb ⊢
 go_enter Tryz.func4,Tryz.ntmps4
 go_upto_region 1 with fail
 clear hCB hwb
 go_upto_region 5 with (first
  | (go_at_call 8;((with_reducible refine HN.out.mono ?_);rintro e w2 ⟨L,rfl,ho2⟩;have H2:=qh ho2;obtain ⟨d0,d1,d2,d3,d4,d5,d6,d7⟩:=HCF.out _ H2.out.old;clear ho2))
  | (go_at_call 26;((with_reducible refine (HR.out _).mono ?_);rintro e w3 ⟨R,rfl,hr3,hg3,ha3⟩;have H3:Hid (B2 wb w3 L R P (newS P) (newS P)):=qh (b2_new HTB.out H2.out hr3 hg3 ha3);clear hr3 hg3 ha3)))
 clear HN HR H2 c0 c1 c2 c3 c4 c5 c6 c7 d0 d1 d2 d3 d4 d5 d6 d7
 obtain ⟨RQ,hRQ⟩:∃ z,R.q=z:=⟨_,rfl⟩
 rw [hRQ]
 go_wp2_with fail
 go_loopw [60,7] (fun i kp wr=>∃ (j:Nat) (L:LL) (R:RL) (k:Nr),j ≤ len∧i = .int .i64 (j:Int)∧kp = .pointer (some ⟨L.q,0,none⟩)∧R.q=RQ∧B2 wb wr L R P k k∧Inv P k) (fun i _ _=>len - (vi i).toNat)
 case atStart=>exact ⟨0,L,R,_,Nat.zero_le _,rfl,rfl,hRQ,H3.out,HNS.out⟩
 case round=>
  clear H3 HNS hRQ
  obtain ⟨j,L,R,k,hj,rfl,rfl,hRQ,hb,hI⟩:=hrel
  have HB:=qh hb
  have HI:=qh hI
  have hj300:j ≤ 300:=by have:=H300.out;omega
  clear hb hI
  by_cases hlt:j < len
  ·obtain ⟨q,hq⟩:∃ q,os[j]?=some q:=⟨_,List.getElem?_eq_getElem (by have:=HLEN.out;omega)⟩
   obtain ⟨gb,go,rfl,hr,hx,hst⟩:=HAT.out _ HB.out.own.old j q hq
   clear hq
   have HN:=qh (op_new HB.out q)
   obtain ⟨W,hW⟩:∃ z,(wr.alloc (.cells (opa opz) 65)).setCells wr.heap.size 0 (opc q)=z:=⟨_,rfl⟩
   rw [hW] at HN
   rw [HZO.out] at HN hW
   have HW0:=qh hW
   have hrx:=HN.out.2.2
   have HDO:=qh (does_any HN.out.2.1 HI.out HP.out q hx hst)
   rw [hRQ] at HDO
   have HWT:Hid (∀ (W:World) (L:LL) (R:RL) (k:Nr),B2 wb W L R P k k→Inv P k→_):=qh fun W L R k b I=>own_waits b.own I
   have HVN:=qh fun (W:World) (n:Nt)=>note_new (W:=W) n
   rw [nl.zn_na] at HVN
   clear hW hx hst
   go_upto_region 12 with (first
    | ((with_reducible refine load_op q 62 gb (go + j * 29) ?_ hr ?_);((rfl)))
    | ((with_reducible refine store_op q 12 63 wr.heap.size ?_ ?_ ?_ ?_);((rfl));((rfl));((exact HN.out.1))))
   rw [HW0.out]
   clear hr
   go_upto_region 16 with (first
    | ((with_reducible refine load_op q 12 wr.heap.size 0 ?_ hrx ?_);((rfl)))
    | (go_at_call 27;((with_reducible refine HDO.out.mono ?_);rintro e w4 ⟨L2,R2,k2,rfl,hb4,hq4,hI4⟩;have HB4:=qh hb4;have HI4:=qh hI4;have HQ4:=qh hq4;clear hb4 hI4 hq4)))
   clear hrx HDO HN HW0 HB HI hRQ
   have HW4:=qh (HWT.out _ _ _ _ HB4.out HI4.out)
   obtain ⟨a,ha⟩:∃ z,shown k2=z:=⟨_,rfl⟩
   obtain ⟨b,hb⟩:∃ z,k2.wt=z:=⟨_,rfl⟩
   rw [ha,hb] at HW4
   have HA:=qh ha
   have HBW:=qh hb
   clear ha hb HWT
   go_upto_region 17 with (first
    | (go_at_call 22;((with_reducible refine HW4.out.mono ?_);rintro e w5 ⟨rfl,hg5⟩;have HV5:=qh (HVN.out w5 a);have HB5:=qh ((HB4.out.grown hg5).grown HV5.out.2.1);clear hg5))
    | ((with_reducible refine tt.store_any a (na zn) 15 77 w5.heap.size ?_ ?_ ?_ ?_ ?_);((rfl));((rfl));((exact HV5.out.1));((rfl))))
   obtain ⟨W5,hW5⟩:∃ z,(w5.alloc (.cells #[.int .u8 0,.int .i64 0,.int .i64 0,.int .i64 0,.int .u64 0,.int .u8 0,.bool false,.bool false,.int .u32 0,.int .u32 0,.int .u32 0,.int .u32 0,.int .u32 0,.int .u32 0,.int .u32 0,.int .u32 0,.int .u32 0,.int .u32 0,.int .u32 0,.int .u32 0,.int .u32 0,.int .u32 0,.int .u32 0,.int .u32 0] 37)).setRow w5.heap.size (na a)=z:=⟨_,rfl⟩
   have HX5:=qh HV5.out.2.2
   rw [hW5] at HB5 HX5 ⊢
   obtain ⟨B,hB⟩:∃ z,w5.heap.size=z:=⟨_,rfl⟩
   rw [hB] at HX5 ⊢
   clear hW5 hB HV5 HVN HW4 HB4
   obtain ⟨t,nn,HT,hagg,hsize,hld⟩:=namedN'
   have hD:∀ i,B2 wb (W5.drewN i) L2 R2 P k2 k2:=fun i=>HB5.out.grown (grown_drewN (grown_refl _ _) i)
   have l37:∀ i,(W5.drewN i).cell? ⟨RQ,37,none⟩=some (.bool b):=fun i=>by have:=(hD i).rn.c37;rw [HQ4.out,HBW.out] at this;exact this
   have l12:∀ i,(W5.drewN i).cell? ⟨RQ,12,none⟩=some (.pointer (some ⟨R2.dg,0,none⟩)):=fun i=>by have:=(hD i).rn.c5;rw [HQ4.out] at this;exact this
   have l20:∀ i,(W5.drewN i).cell? ⟨R2.dg,20,none⟩=some (.bool k2.d.fl):=fun i=>(hD i).rn.dl.cells.2.2.2.1
   have m1:∀ i,(loadCellsFrom ⟨B,0,none⟩ 0 nn #[]).run Tryz.prog (W5.drewN i) = .ok (na a) (W5.drewN i):=fun i=>hld B 0 a _ (tt.range_of HX5.out)
   have m2:b=true→∀ i,(loadCellsFrom ⟨RQ,13,none⟩ 0 nn #[]).run Tryz.prog (W5.drewN i) = .ok (na a) (W5.drewN i):=fun e i=>hld RQ 13 a _ (by
    have:=(hD i).rn.cask
    rw [HQ4.out] at this
    have hs:k2.ask=a:=by rw [← HA.out];unfold shown;rw [HBW.out,e];rfl
    rw [hs] at this
    exact this)
   have hnn:=neq_self a
   have HDE:=qh fun i=>own_deal (hD i).own
   have HSE:=qh fun i=>own_stamp (hD i).own
   have HFE:=qh fun i=>own_flag (hD i).own
   have HRE:=qh fun i=>de.rstamp_any (hD i).rn.dl
   generalize sT k2.d=T0 at HSE HRE
   generalize k2.d.fl=F0 at HFE l20
   have hTT:(T0 != T0)=false:=by simp
   have hFF:(F0 != F0)=false:=by simp
   rw [HT.out]
   clear hld hD HX5
   cases b
   ·clear HA HBW
    go_quiet (first
     | (go_at_call 24;exact Calls.quiet_of_same ((HDE.out _).mono fun _ _ he=>⟨he.1,he.2.symm⟩))
     | (go_at_call 28;exact Calls.quiet_of_same ((HSE.out _).mono fun _ _ he=>⟨he.1,he.2.symm⟩))
     | (go_at_call 30;exact Calls.quiet_of_same ((HFE.out _).mono fun _ _ he=>⟨he.1,he.2.symm⟩))
     | (go_at_call 29;exact Calls.quiet_of_same ((HRE.out _).mono fun _ _ he=>⟨he.1,he.2.symm⟩)))
    clear l37 l12 l20 m1 m2
    go_wp2_with fail
    go_roundw
    case rel=>exact ⟨j + 1,L2,R2,k2,by omega,by go_num,rfl,HQ4.out,HB5.out.grown (grown_drewN (grown_refl _ _) _),HI4.out⟩
    case measure=>simp [vi];omega
   ·have m2:=m2 rfl
    clear HA HBW
    go_quiet (first
     | (go_at_call 24;exact Calls.quiet_of_same ((HDE.out _).mono fun _ _ he=>⟨he.1,he.2.symm⟩))
     | (go_at_call 28;exact Calls.quiet_of_same ((HSE.out _).mono fun _ _ he=>⟨he.1,he.2.symm⟩))
     | (go_at_call 30;exact Calls.quiet_of_same ((HFE.out _).mono fun _ _ he=>⟨he.1,he.2.symm⟩))
     | (go_at_call 29;exact Calls.quiet_of_same ((HRE.out _).mono fun _ _ he=>⟨he.1,he.2.symm⟩)))
    clear l37 l12 l20 m1 m2
    go_wp2_with fail
    go_roundw
    case rel=>exact ⟨j + 1,L2,R2,k2,by omega,by go_num,rfl,HQ4.out,HB5.out.grown (grown_drewN (grown_refl _ _) _),HI4.out⟩
    case measure=>simp [vi];omega
  ·have HO:=qh HB.out.own.old
   have hcf:=HCF.out _ HO.out
   obtain ⟨c0,c1,c2,c3,c4,c5,c6,c7⟩:=hcf
   go_upto_region 21 with (go_at_call 31;((with_reducible refine (HDA.out _).mono ?_);rintro e w7 ⟨rfl,hg7⟩;have HB7:=qh (HB.out.grown hg7);clear hg7))
   clear c0 c1 c2 c3 c4 c5 c6 c7 HO HB HDA HCF
   obtain ⟨n,hn⟩:∃ z,P.N=z:=⟨_,rfl⟩
   rw [hn] at hN256 ⊢
   clear hn
   go_wp2_with fail
   go_loopw [123] (fun i wr=>∃ t:Nat,t ≤ n∧i = .int .i64 (t:Int)∧B2 wb wr L R P k k) (fun i _=>n - (vi i).toNat)
   case atStart=>exact ⟨0,Nat.zero_le _,rfl,HB7.out⟩
   case round=>
    clear HB7
    obtain ⟨t,ht,rfl,hb⟩:=hrel
    have HB:=qh hb
    clear hb
    by_cases htn:t < n
    ·have HLI:=qh (own_line HB.out.own (t:Int))
     obtain ⟨l,hl⟩:∃ z,(cfind P.c k.ss (t:Int)).1=z:=⟨_,rfl⟩
     obtain ⟨il,hil⟩:∃ z,(cfind P.c k.ss (t:Int)).2=z:=⟨_,rfl⟩
     have HRF:Hid (∀ W,B2 wb W L R P k k→_):=qh fun W b=>kk.rfind_any R.c P.c k.ss W b.rn.ca HI.out.ch (t:Int)
     rw [hl,hil] at HLI HRF
     have HBK:Hid (∀ W,B2 wb W L R P k k→_):=qh fun W b=>fx_back b.own (t:Int)
     have HRB:Hid (∀ W,B2 wb W L R P k k→_):=qh fun W b=>bk.rfind_any b.rn.ba HI.out.rg (t:Int)
     have hd16:=fd_len (bk.look k.bs (t:Int))
     obtain ⟨d,hd'⟩:∃ z,fd (bk.look k.bs (t:Int))=z:=⟨_,rfl⟩
     obtain ⟨lv,hlv⟩:∃ z,fl (bk.look k.bs (t:Int))=z:=⟨_,rfl⟩
     obtain ⟨ib,hib⟩:∃ z,(bk.look k.bs (t:Int)).isSome=z:=⟨_,rfl⟩
     rw [hd',hlv,hib] at HBK HRB
     rw [hd'] at hd16
     have HMK:Hid (∀ W,B2 wb W L R P k k→_):=qh fun W b=>own_marked b.own (t:Int)
     have HRM:Hid (∀ W,B2 wb W L R P k k→_):=qh fun W b=>mrk.rhas_any b.rn.mr (t:Int)
     obtain ⟨rd,hrd⟩:∃ z,k.ms.r (t:Int)=z:=⟨_,rfl⟩
     obtain ⟨wt,hwt⟩:∃ z,k.ms.w (t:Int)=z:=⟨_,rfl⟩
     rw [hrd,hwt] at HMK HRM
     have HRQ:=qh hRQ
     clear hl hil hd' hlv hib hrd hwt
     have HD16:=qh hd16
     clear hd16 hRQ
     have HC:Hid (∀ W,B2 wb W L R P k k→W.cell? ⟨RQ,9,none⟩=some (.pointer (some ⟨R.c.b,0,none⟩))∧W.cell? ⟨RQ,10,none⟩=some (.pointer (some ⟨R.br,0,none⟩))∧W.cell? ⟨RQ,11,none⟩=some (.pointer (some ⟨R.mr,0,none⟩))):=qh fun W b=>by
      rw [← HRQ.out]
      exact ⟨b.rn.c2,b.rn.c3,b.rn.c4⟩
     go_upto_region 24 with (first
      | (go_at_call 21;((with_reducible refine HLI.out.mono ?_);rintro e w1 ⟨rfl,hg1⟩;have H1:=qh (HB.out.grown (grown_trans hg1 (grown_alloc (grown_refl _ none) (.cells (la l) 50))));have HX1:=qh (heap_alloc_new w1 (.cells (la l) 50));have HR1:=qh (own_rows (HB.out.grown hg1).own);clear hg1))
      | ((with_reducible refine kk.store_new' l 18 130 ?_ ?_ ?_);((rfl));((rfl))))
     obtain ⟨W1,hW1⟩:∃ z,w1.alloc (.cells (la l) 50)=z:=⟨_,rfl⟩
     rw [hW1] at H1 HX1 ⊢
     obtain ⟨B1,hB1⟩:∃ z,w1.heap.size=z:=⟨_,rfl⟩
     rw [hB1] at HX1 HR1 ⊢
     clear hW1 hB1
     obtain ⟨q9,q10,q11⟩:=HC.out _ H1.out
     go_upto_region 25 with (first
      | (go_at_call 32;((with_reducible refine (HRF.out _ H1.out).mono ?_);rintro e w2 ⟨rfl,hg2⟩;have H2:=qh (H1.out.grown (grown_trans hg2 (grown_alloc (grown_refl _ none) (.cells (la l) 50))));have HY2:=qh (heap_alloc_new w2 (.cells (la l) 50));have HX2:=qh (((grown_trans hg2 (grown_alloc (grown_refl _ none) (.cells (la l) 50))).block _ (lt_of HX1.out) (by simp)).trans HX1.out);have HR2:=qh fun p hp=>Nat.lt_of_lt_of_le (HR1.out p hp) (Nat.le_trans (Nat.le_of_lt (lt_of HX1.out)) hg2.size);clear hg2))
      | ((with_reducible refine kk.store_new' l 20 139 ?_ ?_ ?_);((rfl));((rfl))))
     obtain ⟨W2,hW2⟩:∃ z,w2.alloc (.cells (la l) 50)=z:=⟨_,rfl⟩
     rw [hW2] at H2 HX2 HY2 ⊢
     obtain ⟨B2',hB2⟩:∃ z,w2.heap.size=z:=⟨_,rfl⟩
     rw [hB2] at HY2 HR2 ⊢
     clear hW2 hB2 q9 q10 q11
     have hd16:=HD16.out
     go_upto_region 26 with (first
      | (go_at_call 23;((with_reducible refine (HBK.out _ H2.out).mono ?_);rintro e w3 ⟨rfl,ho3,hf3⟩;have HX3:=qh (hf3.lx _ _ _ HX2.out (fun p hp e=>by have:=HR1.out p hp;omega));have HY3:=qh (hf3.lx _ _ _ HY2.out (fun p hp e=>by have:=HR2.out p hp;omega));have H3:=qh ((H2.out.left ho3 hf3).grown (grown_alloc (grown_refl _ none) (.cells (row d) 35)));have HX4:=qh (((grown_alloc (grown_refl w3 none) (.cells (row d) 35)).block _ (lt_of HX3.out) (by simp)).trans HX3.out);have HY4:=qh (((grown_alloc (grown_refl w3 none) (.cells (row d) 35)).block _ (lt_of HY3.out) (by simp)).trans HY3.out);have HZ4:=qh (heap_alloc_new w3 (.cells (row d) 35));clear ho3 hf3))
      | ((with_reducible refine store_bZ d hd16 22 145 ?_ ?_ ?_);((rfl));((rfl))))
     obtain ⟨W4,hW4⟩:∃ z,w3.alloc (.cells (row d) 35)=z:=⟨_,rfl⟩
     rw [hW4] at H3 HX4 HY4 HZ4 ⊢
     obtain ⟨B3,hB3⟩:∃ z,w3.heap.size=z:=⟨_,rfl⟩
     rw [hB3] at HZ4 ⊢
     clear hW4 hB3 HX3 HY3 HX2 HY2 HX1 HR1 HR2
     obtain ⟨q9,q10,q11⟩:=HC.out _ H3.out
     go_upto_region 27 with (first
      | (go_at_call 33;((with_reducible refine (HRB.out _ H3.out).mono ?_);rintro e w5 ⟨rfl,hg5⟩;have hgg:=grown_trans hg5 (grown_alloc (grown_refl _ none) (.cells (row d) 35));have H5:=qh (H3.out.grown hgg);have HX5:=qh ((hgg.block _ (lt_of HX4.out) (by simp)).trans HX4.out);have HY5:=qh ((hgg.block _ (lt_of HY4.out) (by simp)).trans HY4.out);have HZ5:=qh ((hgg.block _ (lt_of HZ4.out) (by simp)).trans HZ4.out);have HU5:=qh (heap_alloc_new w5 (.cells (row d) 35));clear hg5 hgg))
      | ((with_reducible refine store_bZ d hd16 25 155 ?_ ?_ ?_);((rfl));((rfl))))
     obtain ⟨W5,hW5⟩:∃ z,w5.alloc (.cells (row d) 35)=z:=⟨_,rfl⟩
     rw [hW5] at H5 HX5 HY5 HZ5 HU5 ⊢
     obtain ⟨B5,hB5⟩:∃ z,w5.heap.size=z:=⟨_,rfl⟩
     rw [hB5] at HU5 ⊢
     clear hW5 hB5 HX4 HY4 HZ4 q9 q10 q11
     obtain ⟨q9,q10,q11⟩:=HC.out _ H5.out
     go_upto_region 29 with (first
      | (go_at_call 34;((with_reducible refine (HMK.out _ H5.out).mono ?_);rintro e w6 ⟨rfl,rfl⟩))
      | (go_at_call 35;((with_reducible refine (HRM.out _ H5.out).mono ?_);rintro e w7 ⟨rfl,n7,rfl⟩)))
     have hgd:=grown_drewN (grown_refl W5 none) n7
     have H6:=qh (H5.out.grown hgd)
     have x1:=kk.range_of ((hgd.block _ (lt_of HX5.out) (by simp)).trans HX5.out)
     have x2:=kk.range_of ((hgd.block _ (lt_of HY5.out) (by simp)).trans HY5.out)
     have x3:=brange_of ((hgd.block _ (lt_of HZ5.out) (by simp)).trans HZ5.out)
     have x4:=brange_of ((hgd.block _ (lt_of HU5.out) (by simp)).trans HU5.out)
     obtain ⟨W6,hW6⟩:∃ z,W5.drewN n7=z:=⟨_,rfl⟩
     rw [hW6] at H6 x1 x2 x3 x4 ⊢
     clear hgd hW6 q9 q10 q11 HX5 HY5 HZ5 HU5
     obtain ⟨tb,nb,HTB2,haggb,hsizeb,hldb⟩:=namedB
     have m3:=hldb B3 d _ hd16 x3
     have m4:=hldb B5 d _ hd16 x4
     have y1:=neq_line l
     have y2:=neB d hd16
     have z1:(il != il)=false:=by simp
     have z2:(lv != lv)=false:=by simp
     have z3:(ib != ib)=false:=by simp
     have z4:(rd != rd)=false:=by simp
     have z5:(wt != wt)=false:=by simp
     rw [HTB2.out]
     clear hldb
     go_upto_region 31 with (first
      | ((with_reducible refine kk.load_ln l 18 B1 0 ?_ x1 ?_);((rfl)))
      | ((with_reducible refine kk.load_ln l 20 B2' 0 ?_ x2 ?_);((rfl))))
     go_wp2_with fail
     go_roundw
     case rel=>exact ⟨t + 1,by omega,by go_num,H6.out⟩
     case measure=>simp [vi];omega
    ·go_wp2_with (go_at_call 10;((with_reducible refine (HW.out _ HB.out.own.old).mono ?_);rintro e w9 ⟨rfl,hg9⟩;have HG9:=qh (HFIN.out _ (grown_trans HB.out.own.old hg9));clear hg9))
     go_ret
     exact ⟨rfl,HG9.out⟩
theorem mk_pok {c:Cfg} {core:Int} (hm:c.may) (h0:0 ≤ core) (h1:core < c.co):∃ P:Pm,Pok P∧P.c=c∧P.core=core:=by
 obtain ⟨N,hN,_⟩:=mrk.cfg_nat hm
 have hba:=tt.hb_bounds (hm.1 5 (by omega))
 have hb1:1 ≤ c.ba:=hba.1
 exact ⟨⟨c,core,N,c.ba.toNat⟩,⟨hm,hN,by show c.ba=((c.ba.toNat:Nat):Int);omega,h0,h1⟩,rfl,rfl⟩
theorem tabs_of_laid {W:World} (h:laidMetH Tryz.prog tt.laid1 W):Tb W:=⟨tt.tab_of_laid h,tt.kinds_of_laid h⟩
theorem plays_true (c:Cfg) (core:Int) (ad:Option Addr) (len cap:Nat) (w:World) (hT:Tb w) (os:List OpX) (hlen:len=os.length) (hat:OpsAt w ad os):Calls Tryz.prog 4 #[.agg c.cells,.int .i64 core,.slice ad len cap] w fun e w'=>e = .returned (.bool true)∧w.grownBy w' none:=by
 by_cases h:300 < len
 ·exact plays_long c core ad len cap w hT h
 ·by_cases hm:c.may∧0 ≤ core∧core < c.co
  ·obtain ⟨P,hP,rfl,rfl⟩:=mk_pok hm.1 hm.2.1 hm.2.2
   exact plays_some P hP os ad len cap w hT hlen hat (by omega)
  ·exact plays_no c core ad len cap w hT (by omega) hm
end Go.Proofs.YtcoimipgilkmbaaGreatDoor.py
