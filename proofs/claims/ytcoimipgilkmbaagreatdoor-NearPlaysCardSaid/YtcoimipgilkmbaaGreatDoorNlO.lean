/-
 What a note does: contracts. Conditions: as NlA names them.
-/
import Derived.Test.YtcoimipgilkmbaaGreatDoorTl
import Derived.Test.YtcoimipgilkmbaaGreatDoorNlN
namespace Go.Proofs.YtcoimipgilkmbaaGreatDoor.nl
set_option linter.unusedVariables false
set_option linter.unusedSimpArgs false
set_option maxRecDepth 1000000
set_option maxHeartbeats 16000000
open Go Go.ChangeShapes Go.WideShapes Go.ChangeAt Go.RowKit Go.Shelf
open Go.Proofs.YtcoimipgilkmbaaGreatDoor.nr
open Go.Proofs.YtcoimipgilkmbaaGreatDoor.tt (Cfg Nt na nt zn bare zd fits row tyne lt_of U Tab TabK grown_refl grown_trans grown_alloc grown_setCells grown_drew grown_drewN yes Sl Next flat)
open Go.Proofs.YtcoimipgilkmbaaGreatDoor.kk (Ln St zl la ln cfind cdrop cuse cgoes cwrite cturn cput setAt setOf live fF Shp Cac Kept)
open Go.Proofs.YtcoimipgilkmbaaGreatDoor.bk (Bk rem kills puts putE fd fl Nd Rg dead fresh BkAt)
open Go.Proofs.YtcoimipgilkmbaaGreatDoor.mrk (Ms rdS wrS meets addE Dom MkAt)
open Go.Proofs.YtcoimipgilkmbaaGreatDoor.de (Dl sT gE rF aD LAt)
open Go.Proofs.YtcoimipgilkmbaaGreatDoor.oo (ref)
section
variable (q:Nat) (w:World)
theorem does_gets (k:Int) (hk:k=6):Calls Tryz.prog 57 #[.pointer (some ⟨q,0,none⟩),.int .u8 k] w fun e w'=>e = .returned (.func (.func 96) #[.pointer (some ⟨q,0,none⟩)] #[])∧w=w':=by
 subst hk
 go_enter Tryz.func57,Tryz.ntmps57
 go_wp2_with fail
 go_ret
 exact ⟨rfl,rfl⟩
theorem does_isRefused (k:Int) (hk:k=7):Calls Tryz.prog 57 #[.pointer (some ⟨q,0,none⟩),.int .u8 k] w fun e w'=>e = .returned (.func (.func 97) #[.pointer (some ⟨q,0,none⟩)] #[])∧w=w':=by
 subst hk
 go_enter Tryz.func57,Tryz.ntmps57
 go_wp2_with fail
 go_ret
 exact ⟨rfl,rfl⟩
theorem does_isBack (k:Int) (hk:k=8):Calls Tryz.prog 57 #[.pointer (some ⟨q,0,none⟩),.int .u8 k] w fun e w'=>e = .returned (.func (.func 98) #[.pointer (some ⟨q,0,none⟩)] #[])∧w=w':=by
 subst hk
 go_enter Tryz.func57,Tryz.ntmps57
 go_wp2_with fail
 go_ret
 exact ⟨rfl,rfl⟩
theorem does_isAsked (k:Int) (hk:(k=4 ∨ k=5)):Calls Tryz.prog 57 #[.pointer (some ⟨q,0,none⟩),.int .u8 k] w fun e w'=>e = .returned (.func (.func 99) #[.pointer (some ⟨q,0,none⟩)] #[])∧w=w':=by
 rcases hk with rfl | rfl
 all_goals (
  go_enter Tryz.func57,Tryz.ntmps57
  go_wp2_with fail
  go_ret
  exact ⟨rfl,rfl⟩)
end
structure Same (bs bs':List Bk):Prop where
 look:∀ b,bk.look bs' b=bk.look bs b
 len:bs'.length=bs.length
 nd:Nd bs'
theorem Same.refl {bs:List Bk} (h:Nd bs):Same bs bs:=⟨fun _=>rfl,rfl,h⟩
theorem same_kills {bs:List Bk} (h:Nd bs) {b:Int} (hf:fl (bk.look bs b)=false):Same bs (kills bs b):=by
 refine ⟨fun y=>?_,bk.kills_len _ _,bk.nd_kills _ h⟩
 rw [bk.look_kills b y h]
 split
 ·rename_i e
  subst e
  cases hl:bk.look bs y with
  | none=>rfl
  | some x=>
   have hx:x.l=false:=by rw [hl] at hf;exact hf
   show some (dead x)=some x
   obtain ⟨_,_,l,_⟩:=x
   simp only at hx
   subst hx
   rfl
 ·rfl
section
variable {w:World} {L:LL} {P:Pm} {k:Nr} (h:LN w L P k) (I:Inv P k) (hP:Pok P) (n:Nt) (hf:fit P n=true)
include h I hP hf
theorem take_gets (hk:n.k=6):Calls Tryz.prog 96 #[.pointer (some ⟨L.q,0,none⟩),.agg (na n)] w fun e w'=>∃ s,e = .returned (.tuple #[s,.bool (takeG P k n),.int .i64 (takeE P k n)])∧OutN w w' s (takeO P k n)∧∃ v bs',LN w' { L with bv:=v } P { takeS P k n with bs:=bs' }∧Same (takeS P k n).bs bs'∧Mv w w' L v:=by
 have hfit:=(fit_iff hP).1 hf
 have hnd:=(I.takeS hP (n:=n)).nd
 have hE:takeE P k n=if aw k n=true∧fitsAsk k n=true then 0 else 8:=by unfold takeE;rw [if_neg (fun e=>e hfit),if_pos hk]
 have hG:takeG P k n=false:=by unfold takeG;simp [hk]
 have hO:takeO P k n=if aw k n=true∧fitsAsk k n=true then [doneN P n] else []:=by
  unfold takeO
  by_cases c:aw k n=true∧fitsAsk k n=true
  ·rw [if_pos c] at hE ⊢
   rw [hE,if_neg (by decide),if_pos hk]
  ·rw [if_neg c] at hE ⊢
   rw [hE,if_pos (by decide)]
 have hS:takeS P k n=if aw k n=true∧fitsAsk k n=true then { k with ss:=(cput P.c k.ss (lineOf n)).1,wt:=false } else k:=by
  unfold takeS
  by_cases c:aw k n=true∧fitsAsk k n=true
  ·rw [if_pos c] at hE ⊢
   rw [hE,if_neg (by decide),if_pos hk]
  ·rw [if_neg c] at hE ⊢
   rw [hE,if_pos (by decide)]
 rw [hE,hG,hO]
 refine (gets_any h I n).mono fun e w' ⟨s,he,ho,v,hl,hm⟩=>⟨s,he,ho,v,(takeS P k n).bs,?_,Same.refl hnd,hm⟩
 rw [hS]
 exact hl
theorem take_refused (hk:n.k=7):Calls Tryz.prog 97 #[.pointer (some ⟨L.q,0,none⟩),.agg (na n)] w fun e w'=>∃ s,e = .returned (.tuple #[s,.bool (takeG P k n),.int .i64 (takeE P k n)])∧OutN w w' s (takeO P k n)∧∃ v bs',LN w' { L with bv:=v } P { takeS P k n with bs:=bs' }∧Same (takeS P k n).bs bs'∧Mv w w' L v:=by
 have hfit:=(fit_iff hP).1 hf
 have hnd:=(I.takeS hP (n:=n)).nd
 have hE:takeE P k n=if aw k n=true then 0 else 8:=by unfold takeE;rw [if_neg (fun e=>e hfit),if_neg (by omega),if_pos hk]
 have hG:takeG P k n=(aw k n && rF k.d n.st):=by
  unfold takeG
  rw [hE]
  cases aw k n <;> simp [hk]
 have hO:takeO P k n=[]:=by
  unfold takeO
  split
  ·rfl
  ·rw [if_neg (by omega),if_pos (.inl hk)]
 have hS:takeS P k n=if aw k n=true then { k with wt:=false } else k:=by
  unfold takeS
  rw [hE]
  cases aw k n
  ·rfl
  ·simp [hk]
 rw [hE,hG,hO]
 refine (isrefused_any h I n).mono fun e w' ⟨s,he,ho,v,hl,hm⟩=>⟨s,he,ho,v,(takeS P k n).bs,?_,Same.refl hnd,hm⟩
 rw [hS]
 exact hl
theorem take_back (hk:n.k=8):Calls Tryz.prog 98 #[.pointer (some ⟨L.q,0,none⟩),.agg (na n)] w fun e w'=>∃ s,e = .returned (.tuple #[s,.bool (takeG P k n),.int .i64 (takeE P k n)])∧OutN w w' s (takeO P k n)∧∃ v bs',LN w' { L with bv:=v } P { takeS P k n with bs:=bs' }∧Same (takeS P k n).bs bs'∧Mv w w' L v:=by
 have hfit:=(fit_iff hP).1 hf
 have hnd:=(I.takeS hP (n:=n)).nd
 have hE:takeE P k n=if (bk.look k.bs n.b).isSome=true then 0 else 8:=by unfold takeE;rw [if_neg (fun e=>e hfit),if_neg (by omega),if_neg (by omega),if_pos hk]
 have hG:takeG P k n=false:=by unfold takeG;simp [hk]
 have hO:takeO P k n=[]:=by
  unfold takeO
  split
  ·rfl
  ·rw [if_neg (by omega),if_pos (.inr hk)]
 have hS:takeS P k n={ k with bs:=rem k.bs n.b }:=by
  unfold takeS
  rw [hE]
  cases hl:bk.look k.bs n.b with
  | none=>rw [bk.rem_none hl];rfl
  | some x=>simp [hk]
 rw [hE,hG,hO]
 refine (isback_any h n).mono fun e w' ⟨s,he,ho,v,hl,hm⟩=>⟨s,he,ho,v,(takeS P k n).bs,?_,Same.refl hnd,hm⟩
 rw [hS]
 exact hl
theorem take_asked (hk:n.k=4 ∨ n.k=5):Calls Tryz.prog 99 #[.pointer (some ⟨L.q,0,none⟩),.agg (na n)] w fun e w'=>∃ s,e = .returned (.tuple #[s,.bool (takeG P k n),.int .i64 (takeE P k n)])∧OutN w w' s (takeO P k n)∧∃ v bs',LN w' { L with bv:=v } P { takeS P k n with bs:=bs' }∧Same (takeS P k n).bs bs'∧Mv w w' L v:=by
 have hfit:=(fit_iff hP).1 hf
 have hnd:=(I.takeS hP (n:=n)).nd
 have e6:¬ n.k=6:=by omega
 have e7:¬ n.k=7:=by omega
 have e8:¬ n.k=8:=by omega
 have hE:takeE P k n=0:=by unfold takeE;rw [if_neg (fun e=>e hfit),if_neg e6,if_neg e7,if_neg e8]
 have hG:takeG P k n=false:=by unfold takeG;simp [e7]
 cases hr:rfs k n
 ·have hO:takeO P k n=[ackN P k n]:=by unfold takeO;rw [hE,if_neg (by decide),if_neg e6,if_neg (by omega),hr,if_neg (by decide)]
  have hS:takeS P k n={ k with d:=aD k.d (met k n) n.st,bs:=if has P k n.b=false∧fl (bk.look k.bs n.b)=true then kills k.bs n.b else k.bs,ss:=if n.k=5 then (cdrop P.c k.ss n.b).1 else (cturn P.c k.ss n.b 1).1 }:=by
   unfold takeS;rw [hE,if_neg (by decide),if_neg e6,if_neg e7,if_neg e8,hr,if_neg (by decide)]
  rw [hE,hG,hO]
  refine (asked_yes h n hr hk).mono fun e w' ⟨s,he,ho,v,hl,hm⟩=>⟨s,he,ho,v,_,by rw [hS];exact hl,?_,hm⟩
  rw [hS]
  show Same (if has P k n.b=false∧fl (bk.look k.bs n.b)=true then kills k.bs n.b else k.bs) (if has P k n.b=true then k.bs else kills k.bs n.b)
  cases hh:has P k n.b
  ·rw [if_neg (show ¬ (false=true) by decide)]
   cases hfl:fl (bk.look k.bs n.b)
   ·rw [if_neg (fun e=>by cases e.2)]
    exact same_kills I.nd hfl
   ·rw [if_pos ⟨rfl,rfl⟩]
    exact Same.refl (bk.nd_kills _ I.nd)
  ·rw [if_pos rfl,if_neg (fun e=>by cases e.1)]
   exact Same.refl I.nd
 ·have hO:takeO P k n=[refN P k n]:=by unfold takeO;rw [hE,if_neg (by decide),if_neg e6,if_neg (by omega),hr,if_pos rfl]
  have hS:takeS P k n={ k with d:=aD k.d (met k n) n.st }:=by
   unfold takeS;rw [hE,if_neg (by decide),if_neg e6,if_neg e7,if_neg e8,hr,if_pos rfl]
  rw [hE,hG,hO]
  refine (asked_no h n hr).mono fun e w' ⟨s,he,ho,v,hl,hm⟩=>⟨s,he,ho,v,(takeS P k n).bs,?_,Same.refl hnd,hm⟩
  rw [hS]
  exact hl
omit hf in
theorem take_any:Calls Tryz.prog 20 #[.pointer (some ⟨L.q,0,none⟩),.agg (na n)] w fun e w'=>∃ s,e = .returned (.tuple #[s,.bool (takeG P k n),.int .i64 (takeE P k n)])∧OutN w w' s (takeO P k n)∧∃ v bs',LN w' { L with bv:=v } P { takeS P k n with bs:=bs' }∧Same (takeS P k n).bs bs'∧Mv w w' L v:=by
 have m0:=(Mil.of h).alloc (na n) 37
 have HFI:=qh (fits_any m0.ln n)
 have M0:=qh m0
 have r0:=m0.rangeN (.head _)
 obtain ⟨W0,hW0⟩:∃ W,w.alloc (.cells (na n) 37)=W:=⟨_,rfl⟩
 rw [hW0] at HFI M0 r0
 obtain ⟨A,hA⟩:∃ A,w.heap.size=A:=⟨_,rfl⟩
 rw [hA] at M0 r0
 have HSN:Hid (∀ W v k B,Mil w W L v P k ((A,on n) :: B)→W.cell? ⟨A,0,none⟩=some (.int .u8 n.k)∧W.rangeAt A 0 (nt n)):=qh fun W v k B mm=>⟨mm.cellN (.head _) 0 _ rfl,mm.rangeN (.head _)⟩
 cases hf:fit P n
 ·have hE:takeE P k n=2:=by
   unfold takeE
   rw [if_pos (fun e=>by rw [(fit_iff hP).2 e] at hf;cases hf)]
  have hG:takeG P k n=false:=by unfold takeG;rw [hE];rfl
  have hO:takeO P k n=[]:=by unfold takeO;rw [hE];rfl
  have hS:takeS P k n=k:=by unfold takeS;rw [hE];rfl
  have hnd:=qh I.nd
  rw [hE,hG,hO,hS]
  rw [hf] at HFI
  clear h I hP m0 hf hE hG hO hS
  go_enter Tryz.func20,Tryz.ntmps20
  go_wp2_with (first
   | ((with_reducible refine tt.load_nt n 3 A ?_ r0 ?_);((rfl)))
   | (go_at_call 56;((with_reducible refine HFI.out.mono ?_);rintro e w1 ⟨rfl,hg1⟩;have M1:=qh (M0.out.grown hg1);clear hg1)))
  go_ret3
  exact ⟨_,rfl,OutN.nil _ _,_,k.bs,M1.out.ln,Same.refl hnd.out,M1.out.mv⟩
 ·have hfit:=(fit_iff hP).1 hf
  obtain ⟨hks,_⟩:=fit_note hP hfit.1 hfit.2
  obtain ⟨t,nn,HT,hagg,hsize,hld,hsz,hst⟩:=namedN
  have hld2:=hld A 0 n
  clear hld hsz hst
  rw [hf] at HFI
  have HQ:Hid (∀ W v,Mil w W L v P k [(A,on n)]→LN W { L with bv:=v } P k):=qh fun W v mm=>mm.ln
  have hks2:n.k=6 ∨ n.k=7 ∨ n.k=8 ∨ (n.k=4 ∨ n.k=5):=by omega
  rcases hks2 with hk | hk | hk | hk
  ·have HDO:=qh fun W=>does_gets L.q W n.k hk
   have HTK0:Hid (∀ W v,Mil w W L v P k [(A,on n)]→_):=qh fun W v mm=>take_gets (HQ.out W v mm) I hP n hf hk
   have hen:∀ args w,(callFunc 96 args).run Tryz.prog w = .ok (.enter 96 args) w:=enters_of Tryz.func96 (by kernel_rfl) rfl
   clear h I hP m0 hf hfit hks hk HQ
   go_enter Tryz.func20,Tryz.ntmps20
   go_upto_region 5 with (first
    | ((with_reducible refine tt.load_nt n 3 A ?_ r0 ?_);((rfl)))
    | (go_at_call 56;((with_reducible refine HFI.out.mono ?_);rintro e w1 ⟨rfl,hg1⟩;have M1:=qh (M0.out.grown hg1);clear hg1)))
   have M1d:=qh M1.out.drew
   have HS1:=qh (HSN.out _ _ _ _ M1d.out)
   have HTK:=qh (HTK0.out _ _ M1d.out)
   rw [HT.out.1]
   refine wp_region_held_drew (S:=fun W=>W.cell? ⟨A,0,none⟩=some (.int .u8 n.k)∧W.rangeAt A 0 (nt n)) (by kernel_rfl) HS1.out (fun hHeld=>?_)
   refine tl 0 ?_ rfl ?_ ?_ (tl 1 ?_ rfl ?_ ?_ (tl 2 ?_ rfl ?_ ?_ (tl 4 ?_ rfl ?_ ?_ ?_)))
   iterate 4 (rotate_left;(next=>(try simp only [lay]);((intro w0 hSw;obtain ⟨hs0,hsr⟩:=hSw;have hl0:=hld2 _ hsr;go_simp);try (with_reducible rfl)));next=>rfl)
   try simp only [lay]
   refine rd 3 rfl fun K hK=>?_
   go_simp
   go_at_call 57;((with_reducible refine (HDO.out _).mono ?_);rintro e wd ⟨rfl,rfl⟩)
   go_wp2_with fail
   refine hK.out _ _ HS1.out (fun hHeld3=>?_)
   clear hK K
   try simp only [lay]
   refine rd 5 rfl fun K hK=>?_
   go_simp
   go_at_call 96;((with_reducible refine HTK.out.mono ?_);rintro e w2 ⟨s,rfl,ho,v2,bs2,hl2,hsm,hm2⟩;have M2:=qh (M1d.out.next hl2 hm2);have HO:=qh (ho.since M1d.out.mv.kp.size);have HSM:=qh hsm;have HS2:=qh (HSN.out _ _ _ _ M2.out);clear ho hl2 hsm hm2)
   go_wp2_with fail
   refine hK.out _ _ HS2.out (fun hHeld5=>?_)
   clear hK K
   try simp only [lay]
   refine tl 6 ?_ rfl ?_ ?_ (tl 7 ?_ rfl ?_ ?_ (tl 8 ?_ rfl ?_ ?_ (tl 9 ?_ rfl ?_ ?_ (tl 10 ?_ rfl ?_ ?_ (tl 11 ?_ rfl ?_ ?_ ?_)))))
   iterate 6 (rotate_left;(next=>(try simp only [lay]);((intro w0 hSw;go_simp);try (with_reducible rfl)));next=>rfl)
   try simp only [lay]
   refine wpAnyH_done (by kernel_rfl) ?_ _
   go_wp2_with fail
   go_ret3
   exact ⟨s,rfl,HO.out,v2,bs2,M2.out.ln,HSM.out,M2.out.mv⟩
  ·have HDO:=qh fun W=>does_isRefused L.q W n.k hk
   have HTK0:Hid (∀ W v,Mil w W L v P k [(A,on n)]→_):=qh fun W v mm=>take_refused (HQ.out W v mm) I hP n hf hk
   have hen:∀ args w,(callFunc 97 args).run Tryz.prog w = .ok (.enter 97 args) w:=enters_of Tryz.func97 (by kernel_rfl) rfl
   clear h I hP m0 hf hfit hks hk HQ
   go_enter Tryz.func20,Tryz.ntmps20
   go_upto_region 5 with (first
    | ((with_reducible refine tt.load_nt n 3 A ?_ r0 ?_);((rfl)))
    | (go_at_call 56;((with_reducible refine HFI.out.mono ?_);rintro e w1 ⟨rfl,hg1⟩;have M1:=qh (M0.out.grown hg1);clear hg1)))
   have M1d:=qh M1.out.drew
   have HS1:=qh (HSN.out _ _ _ _ M1d.out)
   have HTK:=qh (HTK0.out _ _ M1d.out)
   rw [HT.out.1]
   refine wp_region_held_drew (S:=fun W=>W.cell? ⟨A,0,none⟩=some (.int .u8 n.k)∧W.rangeAt A 0 (nt n)) (by kernel_rfl) HS1.out (fun hHeld=>?_)
   refine tl 0 ?_ rfl ?_ ?_ (tl 1 ?_ rfl ?_ ?_ (tl 2 ?_ rfl ?_ ?_ (tl 4 ?_ rfl ?_ ?_ ?_)))
   iterate 4 (rotate_left;(next=>(try simp only [lay]);((intro w0 hSw;obtain ⟨hs0,hsr⟩:=hSw;have hl0:=hld2 _ hsr;go_simp);try (with_reducible rfl)));next=>rfl)
   try simp only [lay]
   refine rd 3 rfl fun K hK=>?_
   go_simp
   go_at_call 57;((with_reducible refine (HDO.out _).mono ?_);rintro e wd ⟨rfl,rfl⟩)
   go_wp2_with fail
   refine hK.out _ _ HS1.out (fun hHeld3=>?_)
   clear hK K
   try simp only [lay]
   refine rd 5 rfl fun K hK=>?_
   go_simp
   go_at_call 97;((with_reducible refine HTK.out.mono ?_);rintro e w2 ⟨s,rfl,ho,v2,bs2,hl2,hsm,hm2⟩;have M2:=qh (M1d.out.next hl2 hm2);have HO:=qh (ho.since M1d.out.mv.kp.size);have HSM:=qh hsm;have HS2:=qh (HSN.out _ _ _ _ M2.out);clear ho hl2 hsm hm2)
   go_wp2_with fail
   refine hK.out _ _ HS2.out (fun hHeld5=>?_)
   clear hK K
   try simp only [lay]
   refine tl 6 ?_ rfl ?_ ?_ (tl 7 ?_ rfl ?_ ?_ (tl 8 ?_ rfl ?_ ?_ (tl 9 ?_ rfl ?_ ?_ (tl 10 ?_ rfl ?_ ?_ (tl 11 ?_ rfl ?_ ?_ ?_)))))
   iterate 6 (rotate_left;(next=>(try simp only [lay]);((intro w0 hSw;go_simp);try (with_reducible rfl)));next=>rfl)
   try simp only [lay]
   refine wpAnyH_done (by kernel_rfl) ?_ _
   go_wp2_with fail
   go_ret3
   exact ⟨s,rfl,HO.out,v2,bs2,M2.out.ln,HSM.out,M2.out.mv⟩
  ·have HDO:=qh fun W=>does_isBack L.q W n.k hk
   have HTK0:Hid (∀ W v,Mil w W L v P k [(A,on n)]→_):=qh fun W v mm=>take_back (HQ.out W v mm) I hP n hf hk
   have hen:∀ args w,(callFunc 98 args).run Tryz.prog w = .ok (.enter 98 args) w:=enters_of Tryz.func98 (by kernel_rfl) rfl
   clear h I hP m0 hf hfit hks hk HQ
   go_enter Tryz.func20,Tryz.ntmps20
   go_upto_region 5 with (first
    | ((with_reducible refine tt.load_nt n 3 A ?_ r0 ?_);((rfl)))
    | (go_at_call 56;((with_reducible refine HFI.out.mono ?_);rintro e w1 ⟨rfl,hg1⟩;have M1:=qh (M0.out.grown hg1);clear hg1)))
   have M1d:=qh M1.out.drew
   have HS1:=qh (HSN.out _ _ _ _ M1d.out)
   have HTK:=qh (HTK0.out _ _ M1d.out)
   rw [HT.out.1]
   refine wp_region_held_drew (S:=fun W=>W.cell? ⟨A,0,none⟩=some (.int .u8 n.k)∧W.rangeAt A 0 (nt n)) (by kernel_rfl) HS1.out (fun hHeld=>?_)
   refine tl 0 ?_ rfl ?_ ?_ (tl 1 ?_ rfl ?_ ?_ (tl 2 ?_ rfl ?_ ?_ (tl 4 ?_ rfl ?_ ?_ ?_)))
   iterate 4 (rotate_left;(next=>(try simp only [lay]);((intro w0 hSw;obtain ⟨hs0,hsr⟩:=hSw;have hl0:=hld2 _ hsr;go_simp);try (with_reducible rfl)));next=>rfl)
   try simp only [lay]
   refine rd 3 rfl fun K hK=>?_
   go_simp
   go_at_call 57;((with_reducible refine (HDO.out _).mono ?_);rintro e wd ⟨rfl,rfl⟩)
   go_wp2_with fail
   refine hK.out _ _ HS1.out (fun hHeld3=>?_)
   clear hK K
   try simp only [lay]
   refine rd 5 rfl fun K hK=>?_
   go_simp
   go_at_call 98;((with_reducible refine HTK.out.mono ?_);rintro e w2 ⟨s,rfl,ho,v2,bs2,hl2,hsm,hm2⟩;have M2:=qh (M1d.out.next hl2 hm2);have HO:=qh (ho.since M1d.out.mv.kp.size);have HSM:=qh hsm;have HS2:=qh (HSN.out _ _ _ _ M2.out);clear ho hl2 hsm hm2)
   go_wp2_with fail
   refine hK.out _ _ HS2.out (fun hHeld5=>?_)
   clear hK K
   try simp only [lay]
   refine tl 6 ?_ rfl ?_ ?_ (tl 7 ?_ rfl ?_ ?_ (tl 8 ?_ rfl ?_ ?_ (tl 9 ?_ rfl ?_ ?_ (tl 10 ?_ rfl ?_ ?_ (tl 11 ?_ rfl ?_ ?_ ?_)))))
   iterate 6 (rotate_left;(next=>(try simp only [lay]);((intro w0 hSw;go_simp);try (with_reducible rfl)));next=>rfl)
   try simp only [lay]
   refine wpAnyH_done (by kernel_rfl) ?_ _
   go_wp2_with fail
   go_ret3
   exact ⟨s,rfl,HO.out,v2,bs2,M2.out.ln,HSM.out,M2.out.mv⟩
  ·have HDO:=qh fun W=>does_isAsked L.q W n.k hk
   have HTK0:Hid (∀ W v,Mil w W L v P k [(A,on n)]→_):=qh fun W v mm=>take_asked (HQ.out W v mm) I hP n hf hk
   have hen:∀ args w,(callFunc 99 args).run Tryz.prog w = .ok (.enter 99 args) w:=enters_of Tryz.func99 (by kernel_rfl) rfl
   clear h I hP m0 hf hfit hks hk HQ
   go_enter Tryz.func20,Tryz.ntmps20
   go_upto_region 5 with (first
    | ((with_reducible refine tt.load_nt n 3 A ?_ r0 ?_);((rfl)))
    | (go_at_call 56;((with_reducible refine HFI.out.mono ?_);rintro e w1 ⟨rfl,hg1⟩;have M1:=qh (M0.out.grown hg1);clear hg1)))
   have M1d:=qh M1.out.drew
   have HS1:=qh (HSN.out _ _ _ _ M1d.out)
   have HTK:=qh (HTK0.out _ _ M1d.out)
   rw [HT.out.1]
   refine wp_region_held_drew (S:=fun W=>W.cell? ⟨A,0,none⟩=some (.int .u8 n.k)∧W.rangeAt A 0 (nt n)) (by kernel_rfl) HS1.out (fun hHeld=>?_)
   refine tl 0 ?_ rfl ?_ ?_ (tl 1 ?_ rfl ?_ ?_ (tl 2 ?_ rfl ?_ ?_ (tl 4 ?_ rfl ?_ ?_ ?_)))
   iterate 4 (rotate_left;(next=>(try simp only [lay]);((intro w0 hSw;obtain ⟨hs0,hsr⟩:=hSw;have hl0:=hld2 _ hsr;go_simp);try (with_reducible rfl)));next=>rfl)
   try simp only [lay]
   refine rd 3 rfl fun K hK=>?_
   go_simp
   go_at_call 57;((with_reducible refine (HDO.out _).mono ?_);rintro e wd ⟨rfl,rfl⟩)
   go_wp2_with fail
   refine hK.out _ _ HS1.out (fun hHeld3=>?_)
   clear hK K
   try simp only [lay]
   refine rd 5 rfl fun K hK=>?_
   go_simp
   go_at_call 99;((with_reducible refine HTK.out.mono ?_);rintro e w2 ⟨s,rfl,ho,v2,bs2,hl2,hsm,hm2⟩;have M2:=qh (M1d.out.next hl2 hm2);have HO:=qh (ho.since M1d.out.mv.kp.size);have HSM:=qh hsm;have HS2:=qh (HSN.out _ _ _ _ M2.out);clear ho hl2 hsm hm2)
   go_wp2_with fail
   refine hK.out _ _ HS2.out (fun hHeld5=>?_)
   clear hK K
   try simp only [lay]
   refine tl 6 ?_ rfl ?_ ?_ (tl 7 ?_ rfl ?_ ?_ (tl 8 ?_ rfl ?_ ?_ (tl 9 ?_ rfl ?_ ?_ (tl 10 ?_ rfl ?_ ?_ (tl 11 ?_ rfl ?_ ?_ ?_)))))
   iterate 6 (rotate_left;(next=>(try simp only [lay]);((intro w0 hSw;go_simp);try (with_reducible rfl)));next=>rfl)
   try simp only [lay]
   refine wpAnyH_done (by kernel_rfl) ?_ _
   go_wp2_with fail
   go_ret3
   exact ⟨s,rfl,HO.out,v2,bs2,M2.out.ln,HSM.out,M2.out.mv⟩
end
end Go.Proofs.YtcoimipgilkmbaaGreatDoor.nl
