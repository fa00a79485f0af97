/-
 What begin of the document's home makes of an ask: contract. No condition but what it names.
-/
import Derived.Test.YtenhdijbcdkfbaaGreatDoorTl
import Derived.Test.YtenhdijbcdkfbaaGreatDoorRhH
namespace Go.Proofs.YtenhdijbcdkfbaaGreatDoor.hh
set_option linter.unusedVariables false
set_option linter.unusedSimpArgs false
set_option maxRecDepth 1000000
set_option maxHeartbeats 16000000
open Go Go.ChangeShapes Go.WideShapes Go.ChangeAt Go.RowKit
open Go.Proofs.YtenhdijbcdkfbaaGreatDoor.tt (Nt Cfg fits net bare zd usd uses coreOf ok_ends MapAt mput mdel ik NSl flat na nt zn grown_alloc grown_refl grown_trans tyne lt_of)
open Go.Proofs.YtenhdijbcdkfbaaGreatDoor.en (En gets back asked asks free ask_parts may_parts ea)
open Go.Proofs.YtenhdijbcdkfbaaGreatDoor.mm (wi wo ones wo_lt)
theorem jfire {w:World} {ops:Array Oper} {o:Oper} {a:Act} {K:Act→World→Prop} {Q:Exit→Act→World→Prop} {E:Prop} (hgd:o.guard=none) (p y:Tmp) (ho:o.op = .store 63 (.tmp p) (.tmp y)) (g off:Nat) (j:Option Jb)
  (hp:a.eval (.tmp p) = .pointer (some ⟨g,off,none⟩)) (hv:a.eval (.tmp y) = .agg (ja j)) (ht:w.there g off 29) (k:K (a.put o.dst undef) (w.setCells g off (jt j))):if Region.wanted o (yielded ops a.tmps)=true then Oper.wp Tryz.prog o a w K Q else E:=by
 have hw:Region.wanted o (yielded ops a.tmps)=true:=by simp [Region.wanted,hgd]
 rw [if_pos hw]
 exact wp_store_mid 63 (.tmp p) (.tmp y) ho g off (ja j) hp hv (by rw [ja_size];exact ht) (jinfoa j) (ja_one j) k
theorem build_job (n:Nt):Array.foldl (fun (cs:Array Value) (x:Value × Nat)=>cs.setIfInBounds (1 + x.snd) x.fst) #[.bool true,.int .u8 0,.int .i64 0,.int .i64 0,.int .i64 0,.int .u64 0,.int .u8 0,.bool false,.bool false,.int .u32 0,.int .u32 0,.int .u32 0,.int .u32 0,.int .u32 0,.int .u32 0,.int .u32 0,.int .u32 0,.int .u32 0,.int .u32 0,.int .u32 0,.int .u32 0,.int .u32 0,.int .u32 0,.int .u32 0,.int .u32 0,.int .u32 0,.bool false,.bool false,.int .u64 0] (na n).zipIdx 0 24=ja (some ⟨n,0,false,false,0⟩):=by
 obtain ⟨k,f,t,b,st,s,h,q,d,hd⟩:=n
 match d,hd with
 | [d0,d1,d2,d3,d4,d5,d6,d7,d8,d9,d10,d11,d12,d13,d14,d15],_=>simp [na,nt,ja,jt]
theorem left_job (n:Nt) (m:Nat):(ja (some ⟨n,0,false,false,0⟩)).setIfInBounds 25 (.int .u32 (m:Int))=ja (some ⟨n,m,false,false,0⟩):=by
 obtain ⟨k,f,t,b,st,s,h,q,d,hd⟩:=n
 match d,hd with
 | [d0,d1,d2,d3,d4,d5,d6,d7,d8,d9,d10,d11,d12,d13,d14,d15],_=>simp [nt,ja,jt]
theorem there_jt {w:World} {g o:Nat} {j:Option Jb} (hf:∀ i,w.frozen? ⟨g,i,none⟩=false) (hr:∀ (i:Nat) u,(jt j)[i]?=some u→w.cell? ⟨g,o + i,none⟩=some u):w.there g o 29:=fun i hi=>by
 have hl:i < (jt j).length:=by rw [jt_len];exact hi
 exact ⟨by rw [hr i _ (List.getElem?_eq_getElem hl)];rfl,hf _⟩
theorem list_form {w:World} {base:Nat} {v:Value} {L:List Nat} (h:w.ownsRow base 3 1 v L.length (mm.row L)):∃ ad cap,v = .slice ad L.length cap∧(L ≠ []→∃ gl,ad=some ⟨gl,0,none⟩∧base ≤ gl∧gl < w.heap.size∧∀ (j x:Nat),L[j]?=some x→w.cell? ⟨gl,j,none⟩=some (.int .i64 (x:Int))):=by
 by_cases h0:L=[]
 ·rcases h.2 with ⟨e,e0⟩ | ⟨g,cap,cur,e,_⟩
  ·exact ⟨none,0,by rw [e,e0],fun k=>absurd h0 k⟩
  ·exact ⟨_,cap,e,fun k=>absurd h0 k⟩
 ·obtain ⟨g,cap,e,h1,h2,h3⟩:=mm.own_pos h (List.length_pos_iff.2 h0)
  exact ⟨_,cap,e,fun _=>⟨g,rfl,h1,h2,fun j x hx=>h3 j _ (by simp [mm.row,hx])⟩⟩
theorem nsl_snoc {w:World} {v':Value} {ns:List Nt} {n:Nt} (h:tt.Sl w 45 24 v' (ns.length + 1) (flat nt ns ++ nt n)):NSl w v' (ns ++ [n]):=by
 show tt.Sl _ _ 24 v' (ns ++ [n]).length (flat nt (ns ++ [n]))
 rw [tt.flat_append,tt.flat_single,List.length_append];exact h
theorem ones_le (m:Nat):(ones m).length ≤ 32:=by
 have:=List.length_filter_le (fun i=>m.testBit i) (List.range 32)
 rw [List.length_range] at this
 exact this
theorem grown_newR {w w1 w2:World} {o:Option Nat} (h:w.grownBy w1 none) (hg:∀ k,o=some k→w.heap.size ≤ k) (k:w1.grownBy w2 o):w.grownBy w2 none:=
 ⟨k.os.trans h.os,k.tape.trans h.tape,k.output.trans h.output,Nat.le_trans h.size k.size,fun i hi hn=>(k.block i (Nat.lt_of_lt_of_le hi h.size) (fun e=>by have:=hg i e.symm;omega)).trans (h.block i hi (by simp))⟩
section
variable {w:World} {h:Nat} {c:Cfg} {F:Fr} {H:Hm}
theorem rbegin_rest (A:RefAt w h c F H) (n:Nt) (hn:Asks c n) (h3:n.k ≠ 3):Calls Tryz.prog 48 #[.pointer (some ⟨h,0,none⟩),.agg (na n)] w fun e w'=>∃ v,e = .returned v ∧
  RefAt w' h c F (begin1 H n).1∧NSl w' v (begin1 H n).2∧RDid w w' h F F∧∀ k,v.ownBlock=some k→w.heap.size ≤ k:=by
 obtain ⟨hb0,hb⟩:=blk_lt hn.fits
 have hk:n.k=1 ∨ n.k=2:=by rcases asks_kind hn with e | e | e <;> omega
 obtain ⟨b,hbn⟩:∃ b:Nat,n.b=(b:Int):=⟨n.b.toNat,by omega⟩
 have HBT:Hid (n.b.toNat=b):=qh (by omega)
 rw [HBT.out] at hb
 have hbl:b < H.en.length:=by rw [A.inv.le];exact hb
 have hbj:b < H.jb.length:=by rw [A.inv.lj];exact hb
 have hml:=asked_lt (k:=n.k) (x:=n.f) (ents_of A.inv b)
 have HIJ:Hid (Inv c { H with jb:=H.jb.set b (some ⟨n,(asked (enOf H b) n.k n.f).1,false,false,0⟩) }):=qh (A.inv.job b _ fun j e=>by
  cases e;exact ⟨hn,hk,by show n.b=(b:Int);omega,hml,⟨Int.le_refl _,(show (0:Int) < 18446744073709551616 by decide)⟩⟩)
 have HJO:Hid (jbOf { H with jb:=H.jb.set b (some ⟨n,(asked (enOf H b) n.k n.f).1,false,false,0⟩) } b=some ⟨n,(asked (enOf H b) n.k n.f).1,false,false,0⟩):=qh (get_jbOf (by show (H.jb.set b _)[b]?=_;rw [List.getElem?_set_self hbj]))
 have hans:begin1 H n=if (asked (enOf H b) n.k n.f).1=0 then answer { H with jb:=H.jb.set b (some ⟨n,(asked (enOf H b) n.k n.f).1,false,false,0⟩) } b else ({ H with jb:=H.jb.set b (some ⟨n,(asked (enOf H b) n.k n.f).1,false,false,0⟩) },(ones (asked (enOf H b) n.k n.f).1).map fun (x:Nat)=>bare (asked (enOf H b) n.k n.f).2.1 (-1) (x:Int) n.b n.st 0 false false):=by
  unfold begin1
  rw [if_neg h3,HBT.out]
  by_cases hw:(asked (enOf H b) n.k n.f).1=0
  ·rw [if_pos hw,if_pos hw,hw]
  ·rw [if_neg hw,if_neg hw]
 obtain ⟨rb,hrb⟩:∃ r,r=begin1 H n:=⟨_,rfl⟩
 rw [← hrb] at hans ⊢
 have HANS:=qh hans
 clear hrb
 have HBD:=qh hb
 have hes:(enOf H b).s < 4294967296:=by
  have:=(may_parts (o:=(enOf H b).o) (s:=(enOf H b).s) (ents_of A.inv b)).2.2.1;omega
 have HQ:Hid (∀ w,_):=qh fun w=>en.rasked_any (enOf H b).o (enOf H b).s n.k n.f w hes
 have HGE:Hid (asked ⟨(enOf H b).o,(enOf H b).s⟩ n.k n.f=asked (enOf H b) n.k n.f):=qh rfl
 unfold en.told at HQ
 rw [HGE.out] at HQ
 have HLI:Hid (∀ w,_):=qh fun w=>mm.rlist_any (asked (enOf H b) n.k n.f).1 w hml
 obtain ⟨g,off,cap,hev,_,_⟩:=A.entAt hbl
 obtain ⟨gj,oj,cj,hjv,_,_⟩:=A.jobAt hbj
 obtain ⟨wb,hwb⟩:∃ wb,w.alloc (.cells (na n) 45)=wb:=⟨_,rfl⟩
 have hgb:w.grownBy wb none:=by rw [← hwb];exact grown_alloc (grown_refl _ _) _
 have hbx:wb.heap[w.heap.size]?=some (.cells (na n) 45 (0,0)):=by rw [← hwb];exact heap_alloc_new _ _
 have HA:Hid (∀ w',wb.grownBy w' none→RefAt w' h c F H):=qh fun w' h'=>A.grown (grown_trans hgb h')
 have HR:Hid (∀ w':World,w'.heap[w.heap.size]?=some (.cells (na n) 45 (0,0))→w'.rangeAt w.heap.size 0 (nt n)):=qh fun w' h'=>tt.range_of h'
 have HK:Hid (∀ w',wb.grownBy w' none→(w'.cell? ⟨h,9,none⟩=some (.slice (some ⟨g,off,none⟩) H.en.length cap))∧(w'.cell? ⟨g,off + b * 2,none⟩=some (.int .i64 (enOf H b).o)∧w'.cell? ⟨g,off + b * 2 + 1,none⟩=some (.int .u32 ((enOf H b).s:Int)))∧(w'.cell? ⟨w.heap.size,0,none⟩=some (.int .u8 n.k)∧w'.cell? ⟨w.heap.size,1,none⟩=some (.int .i64 n.f))):=qh fun w' h'=>by
  have hA:=HA.out w' h'
  obtain ⟨g',off',cap',hev',_,hr⟩:=hA.entAt hbl
  rw [hev] at hev';cases hev'
  have hn':=HR.out w' ((h'.block _ (lt_of hbx) (by simp)).trans hbx)
  exact ⟨by rw [hA.parts.2.1,hev],⟨hr 0 _ rfl,hr 1 _ rfl⟩,⟨tt.cell_at hn' 0 _ rfl,tt.cell_at hn' 1 _ rfl⟩⟩
 have k0:wb.cell? ⟨w.heap.size,0,none⟩=some (.int .u8 n.k):=tt.cell_at (HR.out _ hbx) 0 _ rfl
 have k3:wb.cell? ⟨w.heap.size,3,none⟩=some (.int .i64 (b:Int)):=by rw [← hbn];exact tt.cell_at (HR.out _ hbx) 3 _ rfl
 have HJV:=qh hjv
 have HBJ:=qh hbj
 have HBL:=qh hbl
 have HG:=qh hgb
 have HBX:=qh hbx
 have HNB:=qh hbn
 have HML:=qh hml
 have HOL:Hid (∀ i,F.own h i→i < w.heap.size):=qh fun i hi=>A.own_lt hi
 have hlt:(b:Int) < (H.en.length:Int):=by omega
 have hltj:(b:Int) < (H.jb.length:Int):=by omega
 have hle:(0:Int) ≤ (b:Int):=by omega
 obtain ⟨q,hq⟩:∃ q,q=H.en.length:=⟨_,rfl⟩
 obtain ⟨qj,hqj⟩:∃ q,q=H.jb.length:=⟨_,rfl⟩
 have HQJ:=qh hqj
 rw [← hq] at hlt HK
 rw [← hqj] at hltj
 have e3:(n.k == 3)=false:=by simpa using h3
 clear A hgb hbx hbl hbj hans hes hev hjv hq hqj hb hb0 hn hk h3 hbn hml
 generalize asked (enOf H b) n.k n.f=r at *
 obtain ⟨m,by1,re⟩:=r
 generalize enOf H b=eb at *
 obtain ⟨eo,es⟩:=eb
 dsimp only at *
 clear HBT HGE
 obtain ⟨tN,mN,HTN,haggN,hsizeN,hldN⟩:=tt.named
 go_enter Tryz.func48,Tryz.ntmps48
 go_wp2_with fail
 clear hwb k0 k3 e3
 refine wp_region_held_drew (S:=fun w'=>wb.grownBy w' none) (by kernel_rfl) (tt.grown_drew (grown_refl _ _)) (fun hHeld=>?_)
 generalize wb.drew=wd at hHeld ⊢
 refine tl 0 ?_ rfl ?_ ?_ (tl 1 ?_ rfl ?_ ?_ (tl 2 ?_ rfl ?_ ?_ (tl 3 ?_ rfl ?_ ?_ (tl 4 ?_ rfl ?_ ?_ (tl 5 ?_ rfl ?_ ?_ ?_)))))
 iterate 6 (rotate_left;(next=>(try simp only [lay]);((intro w0 hSw;obtain ⟨hs0,⟨hs1,hs2⟩,⟨hs3,hs4⟩⟩:=HK.out w0 hSw;go_simp);try (with_reducible rfl)));next=>rfl)
 try simp only [lay]
 refine tl 6 ?_ rfl ?_ ?_ (tl 7 ?_ rfl ?_ ?_ (tl 8 ?_ rfl ?_ ?_ (tl 9 ?_ rfl ?_ ?_ (tl 10 ?_ rfl ?_ ?_ ?_))))
 iterate 5 (rotate_left;(next=>(try simp only [lay]);((intro w0 hSw;obtain ⟨hs0,⟨hs1,hs2⟩,⟨hs3,hs4⟩⟩:=HK.out w0 hSw;go_simp);try (with_reducible rfl)));next=>rfl)
 try simp only [lay]
 refine rd 11 rfl fun K hK=>?_
 go_simp
 (with_reducible refine (HQ.out _).mono ?_);rintro e wg ⟨rfl,hg5⟩;have HGG:=qh (grown_trans hHeld hg5)
 go_wp2_with fail
 refine hK.out _ _ HGG.out (fun hHeld=>?_)
 clear hK K
 try simp only [lay]
 refine tl 12 ?_ rfl ?_ ?_ (tl 13 ?_ rfl ?_ ?_ (tl 14 ?_ rfl ?_ ?_ (tl 15 ?_ rfl ?_ ?_ (tl 16 ?_ rfl ?_ ?_ (tl 17 ?_ rfl ?_ ?_ (tl 18 ?_ rfl ?_ ?_ ?_))))))
 iterate 7 (rotate_left;(next=>(try simp only [lay]);((intro w0 hSw;go_simp);try (with_reducible rfl)));next=>rfl)
 try simp only [lay]
 refine wpAnyH_done (by kernel_rfl) ?_ _
 clear hHeld hg5
 go_wp2_with fail
 rw [HTN.out]
 have HJ:Hid (∀ w':World,(w'.heap[h]?=some (.cells (F.cells c) 55 (0,0))∧w'.heap[w.heap.size]?=some (.cells (na n) 45 (0,0)))→w'.cell? ⟨h,10,none⟩=some (.slice (some ⟨gj,oj,none⟩) qj cj)∧(loadCellsFrom ⟨w.heap.size,0,none⟩ 0 mN #[]).run Tryz.prog w' = .ok (na n) w'):=qh fun w' ⟨e1,e2⟩=>⟨by have h10:w'.cell? ⟨h,10,none⟩=some F.jv:=cr e1 10 rfl;rw [h10,HJV.out,← HQJ.out],hldN _ n w' (HR.out w' e2)⟩
 have HG9:=qh (tt.grown_drew HGG.out)
 have HA9:=qh (HA.out _ HG9.out)
 have HB9:=qh ((HG9.out.block _ (lt_of HBX.out) (by simp)).trans HBX.out)
 have HLN:=qh hldN
 clear hldN hlt
 refine wp_region_held_drew (S:=fun w'=>w'.heap[h]?=some (.cells (F.cells c) 55 (0,0))∧w'.heap[w.heap.size]?=some (.cells (na n) 45 (0,0))) (by kernel_rfl) ⟨HA9.out.blk,HB9.out⟩ (fun hHeld=>?_)
 generalize wg.drew=wd2 at hHeld HA9 HG9 HB9 ⊢
 refine tl 0 ?_ rfl ?_ ?_ (tl 1 ?_ rfl ?_ ?_ (tl 2 ?_ rfl ?_ ?_ (tl 3 ?_ rfl ?_ ?_ (tl 4 ?_ rfl ?_ ?_ (tl 5 ?_ rfl ?_ ?_ (tl 6 ?_ rfl ?_ ?_ ?_))))))
 iterate 7 (rotate_left;(next=>(try simp only [lay]);((intro w0 hSw;obtain ⟨hs0,hs1⟩:=HJ.out w0 hSw;go_simp);try (with_reducible rfl)));next=>rfl)
 try simp only [lay]
 refine tl 7 (.agg (ja (some ⟨n,m,false,false,0⟩))) rfl ?hyb (by rfl) ?_
 case hyb=>(intro w0 hSw;have hn1:=tt.na_size n;have hn2:=build_job n;have hn3:=ja_size (some ⟨n,0,false,false,0⟩);have hn4:=left_job n m;go_simp)
 try simp only [lay]
 refine tl 8 ?_ rfl ?_ ?_ ?_
 (rotate_left;(next=>((intro w0 hSw;obtain ⟨hs0,hs1⟩:=HJ.out w0 hSw;go_simp);try (with_reducible rfl)));next=>rfl)
 try simp only [lay]
 obtain ⟨gq,oq,cq,hjq,hjf,hjc⟩:=HA9.out.jobAt HBJ.out
 rw [HJV.out] at hjq
 cases hjq
 obtain ⟨hAs,hgs⟩:=HA9.out.setJob HJV.out HBJ.out (some ⟨n,m,false,false,0⟩) HIJ.out
 obtain ⟨ws,hws⟩:∃ ws,wd2.setCells gj (oj + b * 29) (jt (some ⟨n,m,false,false,0⟩))=ws:=⟨_,rfl⟩
 rw [hws] at hAs hgs
 have hd1:RDid wd2 ws h F F:=RDid.of_own hgs (fun i e=> .inr (.inr (.inr (by cases e;rw [HJV.out];rfl))))
 have HBS:=qh (hd1.heap HB9.out (fun e=>by have:=HOL.out _ e;omega))
 have HAS:=qh hAs
 have HDS:=qh ((RDid.of_grown h F (grown_trans HG.out HG9.out)).trans hd1)
 refine rd 9 rfl fun K hK=>?_
 refine jfire rfl 81 80 rfl gj (oj + b * 29) (some ⟨n,m,false,false,0⟩) rfl rfl (there_jt hjf hjc) ?_
 rw [hws]
 refine hK.out _ _ ⟨HAS.out.blk,HBS.out⟩ (fun hHeld=>?_)
 clear hK K
 try simp only [lay]
 refine wpAnyH_done (by kernel_rfl) ?_ _
 clear hHeld hle hws hd1 hgs hAs hjf hjc hltj HA9 HB9 HG9 HJ HGG HLN HK HQ
 obtain ⟨i0,hi,hz0,hz1,hz2⟩:=info_parts tt.infoN
 have HLE:=qh (ones_le m)
 have HL0:Hid (ones m=[] ↔ m=0):=qh ⟨mm.ones_nil HML.out,fun e=>by rw [e];rfl⟩
 generalize ones m=L at *
 obtain ⟨lo,hlo⟩:∃ q,q=L.length:=⟨_,rfl⟩
 have HLO:=qh hlo
 clear hlo
 go_wp2_with (go_at_call 80;((with_reducible refine (HLI.out _).mono ?_);rintro e wl ⟨v,rfl,hown,hbe⟩;obtain ⟨ad,cl,hvf,hcl⟩:=list_form hown;rw [← HLO.out] at hvf;have HCL:=qh hcl;have hgl:ws.grownBy wl none:=⟨hbe.os,hbe.tape,hbe.output,hbe.size,fun k hk _=>hbe.block k hk⟩;have HGL:=qh hgl;clear hown hbe hcl hgl;subst hvf))
 have HAL:=qh (HAS.out.grown HGL.out)
 have HDL:=qh (HDS.out.trans (RDid.of_grown h F HGL.out))
 have HBLx:=qh ((HGL.out.block _ (lt_of HBS.out) (by simp)).trans HBS.out)
 clear HAS HDS HBS HLI
 go_loopw [12,14] (fun v i wq=>∃ k:Nat,k ≤ lo∧i = .int .i64 (k:Int)∧NSl wq v ((L.take k).map fun (x:Nat)=>bare by1 (-1) (x:Int) (b:Int) n.st 0 false false)∧(∀ g,v.ownBlock=some g→wl.heap.size ≤ g)∧wl.grownBy wq none) (fun _ i _=>lo - (intOf i).toNat)
 case atStart=>exact ⟨0,Nat.zero_le _,rfl,tt.Sl.nil _ _ _,(fun g e=>by cases e),grown_refl _ _⟩
 case round=>
  obtain ⟨k,hk,rfl,hs,hv,hg⟩:=hrel
  have HS:=qh hs
  have HV:=qh hv
  have HGR:=qh hg
  obtain ⟨av,cv,hfv⟩:=hs.form
  obtain ⟨ln,hln⟩:∃ q,q=((L.take k).map fun (x:Nat)=>bare by1 (-1) (x:Int) (b:Int) n.st 0 false false).length:=⟨_,rfl⟩
  rw [← hln] at hfv
  have HLN:=qh hln
  clear hs hv hg hln
  subst hfv
  by_cases hlk:k < lo
  ·have hL:L ≠ []:=fun e=>by rw [HLO.out,e] at hlk;cases hlk
   obtain ⟨gl,rfl,hg1,hg2,hgc⟩:=HCL.out hL
   obtain ⟨x,hx⟩:∃ x,L[k]?=some x:=⟨_,List.getElem?_eq_getElem (by rw [← HLO.out];exact hlk)⟩
   have HCE:Hid (∀ w',wl.grownBy w' none→w'.cell? ⟨gl,k,none⟩=some (.int .i64 (x:Int))∧w'.cell? ⟨w.heap.size,4,none⟩=some (.int .u64 n.st)):=qh fun w' h'=>⟨h'.cell (hgc k x hx) (by simp),tt.cell_at (HR.out w' ((h'.block _ (lt_of HBLx.out) (by simp)).trans HBLx.out)) 4 _ rfl⟩
   obtain ⟨y,hy⟩:∃ y,y=bare by1 (-1) (x:Int) (b:Int) n.st 0 false false:=⟨_,rfl⟩
   obtain ⟨ms,hms⟩:∃ l,l=(L.take k).map fun (x:Nat)=>bare by1 (-1) (x:Int) (b:Int) n.st 0 false false:=⟨_,rfl⟩
   have HTK:Hid ((L.take (k + 1)).map (fun (x:Nat)=>bare by1 (-1) (x:Int) (b:Int) n.st 0 false false)=ms ++ [y]):=qh (by rw [tt.take_snoc _ _ _ hx,List.map_append,hms,hy];rfl)
   have hyc:=(tt.bare_na by1 (-1) (x:Int) (b:Int) n.st 0 false false).symm
   rw [← hy] at hyc
   have HMS:Hid (ms.length < 32):=qh (by rw [hms,List.length_map,List.length_take];have:=HLE.out;have:=HLO.out;omega)
   rw [← hms] at HS HLN
   have hlt:(k:Int) < (lo:Int):=by omega
   have hk0:(0:Int) ≤ (k:Int):=by omega
   clear hL hg1 hg2 hgc hx hy hms HCL
   go_wp2_with fail
   refine wp_region_held_drew (S:=fun w'=>wl.grownBy w' none) (by kernel_rfl) (tt.grown_drew HGR.out) (fun hHeld=>?_)
   have HSD:=qh (HS.out.grown (tt.grown_drew (grown_refl wr none)))
   generalize wr.drew=wx at hHeld HSD ⊢
   have HGX:=qh hHeld
   refine tl 0 ?_ rfl ?_ ?_ (tl 1 ?_ rfl ?_ ?_ (tl 2 ?_ rfl ?_ ?_ (tl 3 ?_ rfl ?_ ?_ (tl 4 ?_ rfl ?_ ?_ ?_))))
   iterate 5 (rotate_left;(next=>(try simp only [lay]);((intro w0 hSw;obtain ⟨hs0,hs1⟩:=HCE.out w0 hSw;go_simp);try (with_reducible rfl)));next=>rfl)
   try simp only [lay]
   refine tl 5 ?_ rfl ?_ ?_ (tl 6 ?_ rfl ?_ ?_ (tl 7 ?_ rfl ?_ ?_ (tl 8 ?_ rfl ?_ ?_ ?_)))
   iterate 4 (rotate_left;(next=>(try simp only [lay]);((intro w0 hSw;obtain ⟨hs0,hs1⟩:=HCE.out w0 hSw;go_simp);try (with_reducible rfl)));next=>rfl)
   try simp only [lay]
   refine tl 9 (.agg (na y)) rfl ?hyb (by rfl) ?_
   case hyb=>(intro w0 hSw;go_simp)
   try simp only [lay]
   clear hyc
   have hn1:=tt.na_size y
   have hn2:=tt.build_na y
   refine rd 10 rfl fun K hK=>?_
   go_simp
   refine hK.out _ _ (grown_alloc HGX.out _) (fun hHeld=>?_)
   clear hK K
   try simp only [lay]
   have HBB:Hid ((wx.alloc (.cells (na y) 45)).heap[wx.heap.size]?=some (.cells (na y) 45 (0,0))):=qh (heap_alloc_new _ _)
   have HSA:=qh (HSD.out.grown (grown_alloc (grown_refl wx none) (.cells (na y) 45)))
   have HGY:=qh (grown_alloc HGX.out (.cells (na y) 45))
   clear hn1 hn2
   obtain ⟨wy,hwy⟩:∃ wy,wx.alloc (.cells (na y) 45)=wy:=⟨_,rfl⟩
   obtain ⟨BB,hBB⟩:∃ B,wx.heap.size=B:=⟨_,rfl⟩
   rw [hwy] at HBB HSA HGY ⊢
   rw [hBB] at HBB ⊢
   clear hwy hBB HSD HS
   refine rd 11 rfl fun K hK=>?_
   refine tt.step_append_sl rfl (.tmp 90) (.tmp 100) 24 24 rfl 45 24 i0 (.agg (na zn)) 112 Tryz.underlying24 hi hz0 hz1 hz2 tt.zn_cells (.slice av ln cv) ms.length (flat nt ms) rfl HSA.out 1 (nt y) (tt.src_one' _ BB (na y) _ (nt y) 24 Tryz.underlying24 HBB.out rfl (tt.nt_len _) (tt.nt_one _)) (by have:=HMS.out;unfold maxLen;omega) (by have:=HMS.out;omega) ?_
   intro v3 w3 hsl3 hgr3 hnx3
   have hg3:wl.grownBy w3 none:=grown_newR HGY.out HV.out hgr3
   have HV3:=qh (hnx3.ge HGY.out.size HV.out)
   have HS3:=qh (nsl_snoc hsl3)
   have HG3:=qh hg3
   clear hsl3 hgr3 hnx3 hg3
   refine hK.out _ _ HG3.out (fun hHeld=>?_)
   clear hK K
   try simp only [lay]
   refine tl 12 ?_ rfl ?_ ?_ ?_
   (rotate_left;(next=>((intro w0 hSw;go_simp);try (with_reducible rfl)));next=>rfl)
   try simp only [lay]
   refine wpAnyH_done (by kernel_rfl) ?_ _
   clear hHeld
   have hlb:lo ≤ 32:=by have:=HLE.out;have:=HLO.out;omega
   go_wp2_with fail
   go_roundw
   case rel=>exact ⟨k + 1,by omega,by go_num,by rw [HTK.out];exact HS3.out,HV3.out,HG3.out⟩
   case measure=>simp [intOf];omega
  ·have HTL:Hid ((L.take k).map (fun (x:Nat)=>bare by1 (-1) (x:Int) (b:Int) n.st 0 false false)=L.map fun (x:Nat)=>bare by1 (-1) (x:Int) (b:Int) n.st 0 false false):=qh (by rw [show k=L.length by have:=HLO.out;omega,List.take_length])
   rw [HTL.out] at HS
   have hge:¬ (k:Int) < (lo:Int):=by omega
   have HAW:=qh (HAL.out.grown HGR.out)
   have HDW:=qh (HDL.out.trans (RDid.of_grown h F HGR.out))
   have HWS:Hid (w.heap.size ≤ wl.heap.size):=qh HDL.out.size
   by_cases hm0:m=0
   ·have e0:((lo:Int) == 0)=true:=by
     have:=HLO.out
     rw [HL0.out.2 hm0] at this
     rw [this];rfl
    have HM0:=qh hm0
    have HAN:Hid (∀ w',_→_):=qh fun w' hA=>ranswer_any (w:=w') (h:=h) (c:=c) (F:=F) (H:={ H with jb:=H.jb.set b (some ⟨n,m,false,false,0⟩) }) hA b HBD.out _ HJO.out
    clear hm0 hlk
    go_wp2_with (go_at_call 52;((with_reducible refine (HAN.out _ HAW.out).mono ?_);rintro e w5 ⟨v5,rfl,q1,q2,q3,q4⟩;have Q1:=qh q1;have Q2:=qh q2;have Q3:=qh q3;have Q4:=qh q4;clear q1 q2 q3 q4))
    go_ret
    rw [HANS.out,if_pos HM0.out]
    exact ⟨_,rfl,Q1.out,Q2.out,HDW.out.trans Q3.out,fun k hk=>Nat.le_trans HDW.out.size (Q4.out k hk)⟩
   ·have e0:((lo:Int) == 0)=false:=by
     have h1:L ≠ []:=fun e=>hm0 (HL0.out.1 e)
     have h2:=List.length_pos_iff.2 h1
     have:=HLO.out
     simp;omega
    have HM0:=qh hm0
    clear hm0 hlk
    go_wp2_with fail
    go_ret
    rw [HANS.out,if_neg HM0.out]
    exact ⟨_,rfl,HAW.out,by rw [HNB.out];exact HS.out,HDW.out,fun k hk=>Nat.le_trans HWS.out (HV.out k hk)⟩
theorem rbegin_any (A:RefAt w h c F H) (n:Nt) (hn:Asks c n):Calls Tryz.prog 48 #[.pointer (some ⟨h,0,none⟩),.agg (na n)] w fun e w'=>∃ v,e = .returned v ∧
  RefAt w' h c F (begin1 H n).1∧NSl w' v (begin1 H n).2∧RDid w w' h F F∧∀ k,v.ownBlock=some k→w.heap.size ≤ k:=by
 by_cases h3:n.k=3
 ·exact rbegin_put A n hn h3 _ rfl
 ·exact rbegin_rest A n hn h3
end
end Go.Proofs.YtenhdijbcdkfbaaGreatDoor.hh
