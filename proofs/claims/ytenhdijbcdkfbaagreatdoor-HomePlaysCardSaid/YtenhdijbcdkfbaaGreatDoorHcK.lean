/-
 What hear of a home makes of it: contract. Condition: the table of de Bruijn's product lies in its variable.
-/
import Derived.Test.YtenhdijbcdkfbaaGreatDoorTl
import Derived.Test.YtenhdijbcdkfbaaGreatDoorHe
namespace Go.Proofs.YtenhdijbcdkfbaaGreatDoor.hh
set_option linter.unusedVariables false
set_option linter.unusedSimpArgs false
set_option maxRecDepth 1000000
set_option maxHeartbeats 16000000
open Go Go.ChangeShapes Go.WideShapes Go.ChangeAt Go.RowKit
open Go.Proofs.YtenhdijbcdkfbaaGreatDoor.tt (Nt Cfg fits net bare zd usd uses coreOf ok_ends MapAt mput mdel ik NPool NSl Turn flat na nt zn grown_alloc grown_refl grown_trans tyne lt_of)
open Go.Proofs.YtenhdijbcdkfbaaGreatDoor.en (En gets back asked asks free ask_parts may_parts ea)
open Go.Proofs.YtenhdijbcdkfbaaGreatDoor.mm (wi wo ones wo_lt)
def heard (H:Hm) (n:Nt):Hm × List Nt:=
 match jbOf H n.b.toNat with
 | none=>(H,[])
 | some j=>
  let H1:Hm:={ H with mm:=if n.h then H.mm.set n.b.toNat n.d else H.mm,jb:=H.jb.set n.b.toNat (some (noted j n)) }
  if (noted j n).w ≠ 0 then (H1,[])
  else if (noted j n).r then ((fin H1 n.b.toNat).1,bare 7 (-1) j.a.f n.b (noted j n).l 0 false false :: (fin H1 n.b.toNat).2)
  else ((answer H1 n.b.toNat).1,(answer H1 n.b.toNat).2)
theorem heard_ways (H:Hm) (n:Nt) (b:Nat) (hb:n.b.toNat=b) (hl:b < H.jb.length) (j:Jb) (hj:jbOf H b=some j) :
  ((noted j n).w ≠ 0→heard H n=({ H with mm:=if n.h then H.mm.set b n.d else H.mm,jb:=H.jb.set b (some (noted j n)) },[])) ∧
  ((noted j n).w=0→(noted j n).r=true→heard H n=((fin { H with mm:=if n.h then H.mm.set b n.d else H.mm } b).1,bare 7 (-1) (noted j n).a.f n.b (noted j n).l 0 false false :: (fin { H with mm:=if n.h then H.mm.set b n.d else H.mm } b).2)) ∧
  ((noted j n).w=0→(noted j n).r=false→heard H n=({ H with mm:=if n.h then H.mm.set b n.d else H.mm,en:=H.en.set b (gets (enOf H b) (noted j n).a.k (noted j n).a.f).1,jb:=H.jb.set b (some { noted j n with d:=true }) },[dataN (noted j n).a.f b (gets (enOf H b) (noted j n).a.k (noted j n).a.f).2.1 (rowOf { H with mm:=if n.h then H.mm.set b n.d else H.mm } b)])):=by
 subst hb
 unfold heard
 rw [hj]
 dsimp only
 have hf:∀ (mm:List (List Int)) (o:Option Jb),fin { H with mm:=mm,jb:=H.jb.set n.b.toNat o } n.b.toNat=fin { H with mm:=mm } n.b.toNat:=fun mm o=>by
  unfold fin;simp only [List.set_set]
 refine ⟨fun h=>by rw [if_pos h],fun h hr=>by rw [if_neg (fun e=>e h),if_pos hr,hf];rfl,fun h hr=>?_⟩
 rw [if_neg (fun e=>e h),if_neg (by rw [hr];simp)]
 unfold answer
 have hjb:jbOf { H with mm:=if n.h then H.mm.set n.b.toNat n.d else H.mm,jb:=H.jb.set n.b.toNat (some (noted j n)) } n.b.toNat=some (noted j n):=get_jbOf (by show (H.jb.set _ _)[_]?=_;rw [List.getElem?_set_self hl])
 rw [hjb]
 simp only [List.set_set]
 rfl
theorem setCell_heap {w:World} {b:Nat} {cs:Array Value} {t:TypeId} {fr:Nat × Nat} (h:w.heap[b]?=some (.cells cs t fr)) (i:Nat) (v:Value):(w.setCell ⟨b,i,none⟩ v).heap[b]?=some (.cells (cs.set! i v) t fr):=by
 obtain ⟨hlt,hk⟩:=Array.getElem?_eq_some_iff.1 h
 show (w.heap.modify b _)[b]?=_
 rw [Array.getElem?_eq_getElem (by rw [Array.size_modify];exact hlt),Array.getElem_modify_self,hk]
 simp [Array.set!_eq_setIfInBounds]
theorem run_len (b:Nat):∀ (rest:List Nt) (H:Hm) (pre:List Nt),(run b H pre rest).2.length ≤ 33 * rest.length
 | [],H,pre=>by unfold run;simp
 | n :: rest,H,pre=>by
  unfold run
  split
  ·simp
  ·split
   ·have h1:=begin1_len H n
    have h2:=run_len b rest (begin1 H n).1 pre
    simp only [List.length_append,List.length_cons];omega
   ·have h2:=run_len b rest H (pre ++ [n])
    simp only [List.length_cons];omega
theorem fin_len {w:World} {h:Nat} {c:Cfg} {F:Ft} {H:Hm} (A:HomeAt w h c F H) {b:Nat}:(fin H b).2.length ≤ 3000000:=by
 have h1:=run_len b H.wt { H with jb:=H.jb.set b none } []
 have h2:=A.full
 have h3:=(room_le A.inv.may).2.1
 unfold fin
 omega
theorem HomeAt.other' {w w':World} {h:Nat} {c:Cfg} {F:Ft} {H:Hm} (A:HomeAt w h c F H) {own:Option Nat} (hg:w.grownBy w' own) (ho:∀ k,own=some k→¬ F.own k) (ht:∀ k,own=some k→∃ cur,w.heap[k]?=some (.cells cur 45 (0,0))):HomeAt w' h c F H:=
 A.keep fun i hi hx=>hg.block i hi (fun e=>by
  obtain ⟨cur,hc⟩:=ht i e.symm
  rcases hx with hx | hx | hx | ⟨cs,fr,hx⟩
  ·exact ho i e.symm hx
  ·exact tyne (hx ▸ A.blk) hc (by decide) rfl
  ·exact tyne (hx ▸ A.mem.blk) hc (by decide) rfl
  ·exact tyne hx hc (by decide) rfl)
theorem Did.fresh {w w2 w':World} {F F':Ft} (h:Did w w2 F F') {own:Option Nat} (hg:w2.grownBy w' own) (ho:∀ k,own=some k→w.heap.size ≤ k):Did w w' F F':=
 ⟨hg.os.trans h.os,hg.tape.trans h.tape,hg.output.trans h.output,Nat.le_trans h.size hg.size,fun i hi hn=>(hg.block i (Nat.lt_of_lt_of_le hi h.size) (fun e=>by have:=ho i e.symm;omega)).trans (h.block i hi hn),h.mb,h.mv,h.ev,h.ub,h.pb,h.next⟩
section
variable {w:World} {h:Nat} {c:Cfg} {F:Ft} {H:Hm}
theorem hear_non_left (A:HomeAt w h c F H) (n:Nt) (hf:fits c n∧n.t=-1) (hw:Word n) (hT:mm.Tab w) (j:Jb) (hj:jbOf H n.b.toNat=some j) (hjd:j.d=false) (hk:n.k=9) (hh:n.h=false) (hy:(noted j n).w ≠ 0):Calls Tryz.prog 44 #[.pointer (some ⟨h,0,none⟩),.agg (na n)] w fun e w'=>∃ F' v,e = .returned v ∧
  HomeAt w' h c F' (heard H n).1∧NSl w' v (heard H n).2∧Did w w' F F'∧∀ k,v.ownBlock=some k→w.heap.size ≤ k∧¬ F'.own k:=by
 obtain ⟨b,hbn⟩:∃ b:Nat,n.b=(b:Int):=⟨n.b.toNat,by have:=(blk_lt hf.1).1;omega⟩
 have hb:b < c.data.toNat:=by have:=(blk_lt hf.1).2;omega
 have HBT:Hid (n.b.toNat=b):=qh (by omega)
 rw [HBT.out] at hj
 have hjo:=A.inv.jobs b j (jbOf_get hj)
 have hnm:=A.inv.noted n hf.1 j (by rw [HBT.out];exact hj) hw
 obtain ⟨wb,hwb⟩:∃ wb,w.alloc (.cells (na n) 45)=wb:=⟨_,rfl⟩
 have hgb:w.grownBy wb none:=by rw [← hwb];exact grown_alloc (grown_refl _ _) _
 have hbx:wb.heap[w.heap.size]?=some (.cells (na n) 45 (0,0)):=by rw [← hwb];exact heap_alloc_new _ _
 have HA:Hid (∀ w',wb.grownBy w' none→HomeAt w' h c F H):=qh fun w' h'=>A.grown (grown_trans hgb h')
 have HR:Hid (∀ w':World,w'.heap[w.heap.size]?=some (.cells (na n) 45 (0,0))→w'.rangeAt w.heap.size 0 (nt n)):=qh fun w' h'=>tt.range_of h'
 have HOL:Hid (∀ i,F.own i→i < w.heap.size):=qh fun i hi=>A.own_lt hi
 have HOH:=qh A.h_own
 have HLH:=qh A.lt
 have HBJ:Hid (b < H.jb.length):=qh (by rw [A.inv.lj];exact hb)
 have HBM:Hid (b < H.mm.length):=qh (by rw [A.inv.lm];have h1:=A.inv.may.2;have h2:=data_le A.inv.may;omega)
 have HIM:Hid (Inv c { H with mm:=if n.h then H.mm.set b n.d else H.mm }):=qh (A.inv.mem n.h b n.d n.hd)
 have HIJ:Hid (Inv c { H with mm:=if n.h then H.mm.set b n.d else H.mm,jb:=H.jb.set b (some (noted j n)) }):=qh (by rw [HBT.out] at hnm;exact hnm)
 have HOO:=qh A.ok
 have HTT:=qh hT
 have HLOW:=qh A.low
 have HLK:Hid (∀ w',wb.grownBy w' none→(Instr.lookup 86 (.map (some F.ub)) (.int .i64 (b:Int)) false).run Tryz.prog w' = .ok (.agg (askA j)) w'):=qh fun w' h'=>by
  have:=(HA.out w' h').look1 b
  unfold askOr at this
  rw [hj] at this
  exact this
 have HJW:=qh hjo.w
 have HJB:Hid (JobOk c b (noted j n)):=qh (HIJ.out.jobs b (noted j n) (by show (H.jb.set b (some (noted j n)))[b]?=_;rw [List.getElem?_set_self HBJ.out]))
 have HNB:=qh hbn
 have HG:=qh hgb
 have HBX:=qh hbx
 have HF0:=qh hf
 have HBL:=qh hb
 have HNO:Hid (noted j n=⟨j.a,wo j.w n.f,j.d,j.r || decide (n.k=10),if n.k=10∧(j.r=false ∨ n.st < j.l) then n.st else j.l⟩):=qh rfl
 have HWO:=qh (wo_lt j.w n.f hjo.w)
 have HJD:Hid (j.d=false):=qh hjd
 obtain ⟨t9,mm9,HT9,hagg9,hsize9,hld9⟩:=nameB
 have HLD:Hid (∀ w':World,_):=qh fun w':World=>hld9 w.heap.size n w'
 have HWY:=qh (heard_ways H n b HBT.out HBJ.out j hj)
 have e10:(n.k == 10)=false:=by rw [hk];rfl
 have HYW:=qh hy
 have HJR:Hid ((noted j n).r=j.r∧(noted j n).l=j.l):=qh (by unfold noted;simp [hk])
 have HM0:Hid ((if n.h=true then H.mm.set b n.d else H.mm)=H.mm):=qh (by rw [hh];rfl)
 rw [HM0.out] at HIM HIJ HWY
 have HNH:=qh hh
 clear A hgb hbx hjo hnm hf hb hbn hT hj hw hld9 hjd hk hh hy
 generalize noted j n=J at *
 have HJA:Hid (J.a=j.a∧J.d=j.d∧J.w=wo j.w n.f):=qh (by rw [HNO.out];exact ⟨rfl,rfl,rfl⟩)
 obtain ⟨ja,m,jd,r,l⟩:=J
 obtain ⟨aa,m0,d0,r0,l0⟩:=j
 have hja:=HJA.out
 dsimp only at hja HWY HJB HIJ HNO  HLK HJW HWO HJD
 obtain ⟨rfl,rfl,hmw⟩:=hja
 obtain ⟨ak,af,a3,a4,a5,a6,a7,a8,a9,a10⟩:=ja
 have HWT:Hid (∀ w,_):=qh fun w=>mm.wout_any m0 n.f w HJW.out
 rw [← hmw] at HWT
 unfold askA at HLK
 dsimp only at HLK  HWY HJB
 clear hmw HNO
 obtain ⟨rfl,rfl⟩:=HJR.out
 have HK:Hid (∀ w',wb.grownBy w' none→w'.cell? ⟨h,3,none⟩=some (.map (some F.ub))∧w'.cell? ⟨w.heap.size,3,none⟩=some (.int .i64 (b:Int))):=qh fun w' h'=>⟨(HA.out w' h').cells.2.2.2.1,by rw [← HNB.out];exact tt.cell_at (HR.out w' ((h'.block _ (lt_of HBX.out) (by simp)).trans HBX.out)) 3 _ rfl⟩
 have HLK2:Hid (∀ w',wb.grownBy w' none→(Instr.lookup 86 (.map (some F.ub)) (.int .i64 (b:Int)) false).run Tryz.prog w' = .ok (.agg #[.int .u8 ak,.int .i64 af,.int .u32 (m0:Int),.bool r,.int .u64 l]) w'):=HLK
 go_enter Tryz.func44,Tryz.ntmps44
 go_wp2_with fail
 refine wp_region_held_drew (S:=fun w'=>wb.grownBy w' none) (by kernel_rfl) (tt.grown_drew (grown_refl _ _)) (fun hHeld=>?_)
 generalize wb.drew=wd at hHeld ⊢
 have HD0:=qh hHeld
 refine tl 0 ?_ rfl ?_ ?_ (tl 1 ?_ rfl ?_ ?_ (tl 2 ?_ rfl ?_ ?_ (tl 3 ?_ rfl ?_ ?_ (tl 4 ?_ rfl ?_ ?_ (tl 5 ?_ rfl ?_ ?_ (tl 6 ?_ rfl ?_ ?_ ?_))))))
 iterate 7 (rotate_left;(next=>(try simp only [lay]);((intro w0 hSw;obtain ⟨hs1,hs2⟩:=HK.out w0 hSw;have hs3:=HLK2.out w0 hSw;go_simp);try (with_reducible rfl)));next=>rfl)
 try simp only [lay]
 refine rd 7 rfl fun K hK=>?_
 go_simp
 refine hK.out _ _ (grown_alloc HD0.out _) (fun hHeld=>?_)
 clear hK K
 try simp only [lay]
 refine rd 8 rfl fun K hK=>?_
 go_simp
 refine hK.out _ _ (grown_alloc HD0.out _) (fun hHeld=>?_)
 clear hK K
 try simp only [lay]
 refine wpAnyH_done (by kernel_rfl) ?_ _
 clear hHeld
 have hl1:w.heap.size < wd.heap.size:=Nat.lt_of_lt_of_le (lt_of HBX.out) HD0.out.size
 have HB5:Hid (wb.heap.size ≤ wd.heap.size):=qh HD0.out.size
 obtain ⟨wP,hwP⟩:∃ wP,wd.alloc (.cells #[.int .u8 ak,.int .i64 af,.int .u32 (m0:Int),.bool r,.int .u64 l] 93)=wP:=⟨_,rfl⟩
 have h5:wP.heap[wd.heap.size]?=some (.cells #[.int .u8 ak,.int .i64 af,.int .u32 (m0:Int),.bool r,.int .u64 l] 93 (0,0)):=by rw [← hwP];exact heap_alloc_new _ _
 have hgP:wb.grownBy wP none:=by rw [← hwP];exact grown_alloc HD0.out _
 rw [hwP]
 obtain ⟨B5,hB⟩:∃ B,wd.heap.size=B:=⟨_,rfl⟩
 rw [hB] at h5 HB5 hl1 ⊢
 have HL1:=qh hl1
 have hnr:=HR.out wP ((hgP.block _ (lt_of HBX.out) (by simp)).trans HBX.out)
 have n0:=tt.cell_at hnr 0 _ rfl
 have n1:=tt.cell_at hnr 1 _ rfl
 have p2:=cr h5 2 rfl
 have f2:wP.frozen? ⟨B5,2,none⟩=false:=by simp [World.frozen?,h5]
 obtain ⟨wQ,hwQ⟩:∃ wQ,wP.setCell ⟨B5,2,none⟩ (.int .u32 (m:Int))=wQ:=⟨_,rfl⟩
 have h6:wQ.heap[B5]?=some (.cells #[.int .u8 ak,.int .i64 af,.int .u32 (m:Int),.bool r,.int .u64 l] 93 (0,0)):=by rw [← hwQ];exact setCell_heap h5 2 _
 have hgQ:wb.grownBy wQ none:=by rw [← hwQ];exact grown_put1 hgP HB5.out
 have hnq:=HR.out wQ ((hgQ.block _ (lt_of HBX.out) (by simp)).trans HBX.out)
 have m0':=tt.cell_at hnq 0 _ rfl
 have m4':=tt.cell_at hnq 4 _ rfl
 have m6':=tt.cell_at hnq 6 _ rfl
 rw [HNH.out] at m6'
 have m1':=tt.cell_at hnq 3 _ rfl
 rw [HNB.out] at m1'
 have s0:=cr h6 0 rfl
 have s1:=cr h6 1 rfl
 have s2:=cr h6 2 rfl
 have s3:=cr h6 3 rfl
 have s4:=cr h6 4 rfl
 have HGQ:=qh hgQ
 have H6:=qh h6
 have HAQ:=qh (HA.out _ hgQ)
 have hq1:=HAQ.out.cells.2.1
 have hq3:=HAQ.out.cells.2.2.2.1
 clear hwP h5 hgP hB hnr hnq h6 hgQ hl1
 have em:((m:Int) != 0)=true:=by have:=HYW.out;simp;omega
 have HCF:Hid (∀ w':World,(w'.heap[h]?=some (.cells #[.int .i64 c.co,.pointer (some ⟨F.mb,0,none⟩),F.ev,.map (some F.ub),.pointer (some ⟨F.pb,0,none⟩)] 88 (0,0))∧w'.heap[B5]?=some (.cells #[.int .u8 ak,.int .i64 af,.int .u32 (m:Int),.bool r,.int .u64 l] 93 (0,0))∧w'.heap[w.heap.size]?=some (.cells (na n) 45 (0,0)))→(w'.cell? ⟨h,1,none⟩=some (.pointer (some ⟨F.mb,0,none⟩))∧w'.cell? ⟨h,3,none⟩=some (.map (some F.ub)))∧(w'.cell? ⟨B5,0,none⟩=some (.int .u8 ak)∧w'.cell? ⟨B5,1,none⟩=some (.int .i64 af)∧w'.cell? ⟨B5,2,none⟩=some (.int .u32 (m:Int))∧w'.cell? ⟨B5,3,none⟩=some (.bool r)∧w'.cell? ⟨B5,4,none⟩=some (.int .u64 l))∧(w'.cell? ⟨w.heap.size,3,none⟩=some (.int .i64 (b:Int))∧(loadCellsFrom ⟨w.heap.size,8,none⟩ 0 mm9 #[]).run Tryz.prog w' = .ok (pp.row n.d) w')):=qh fun w' ⟨e1,e2,e3⟩=>⟨⟨cr e1 1 rfl,cr e1 3 rfl⟩,⟨cr e2 0 rfl,cr e2 1 rfl,cr e2 2 rfl,cr e2 3 rfl,cr e2 4 rfl⟩,⟨by rw [← HNB.out];exact tt.cell_at (HR.out w' e3) 3 _ rfl,HLD.out w' (HR.out w' e3)⟩⟩
 have HKP:Hid (∀ w1 w2:World,Did w1 w2 F F→(w1.heap[h]?=some (.cells #[.int .i64 c.co,.pointer (some ⟨F.mb,0,none⟩),F.ev,.map (some F.ub),.pointer (some ⟨F.pb,0,none⟩)] 88 (0,0))∧w1.heap[B5]?=some (.cells #[.int .u8 ak,.int .i64 af,.int .u32 (m:Int),.bool r,.int .u64 l] 93 (0,0))∧w1.heap[w.heap.size]?=some (.cells (na n) 45 (0,0)))→(w2.heap[h]?=some (.cells #[.int .i64 c.co,.pointer (some ⟨F.mb,0,none⟩),F.ev,.map (some F.ub),.pointer (some ⟨F.pb,0,none⟩)] 88 (0,0))∧w2.heap[B5]?=some (.cells #[.int .u8 ak,.int .i64 af,.int .u32 (m:Int),.bool r,.int .u64 l] 93 (0,0))∧w2.heap[w.heap.size]?=some (.cells (na n) 45 (0,0)))):=qh fun w1 w2 d ⟨e1,e2,e3⟩=>⟨d.heap e1 HOH.out,d.heap e2 (fun e=>by have:=HOL.out _ e;have:=HL1.out;omega),d.heap e3 (fun e=>by have:=HOL.out _ e;omega)⟩
 obtain ⟨wM,hwM⟩:∃ wM,wM=wQ:=⟨_,rfl⟩
 have HFM:Hid (wM.heap[h]?=some (.cells #[.int .i64 c.co,.pointer (some ⟨F.mb,0,none⟩),F.ev,.map (some F.ub),.pointer (some ⟨F.pb,0,none⟩)] 88 (0,0))∧wM.heap[B5]?=some (.cells #[.int .u8 ak,.int .i64 af,.int .u32 (m:Int),.bool r,.int .u64 l] 93 (0,0))∧wM.heap[w.heap.size]?=some (.cells (na n) 45 (0,0))):=qh (by rw [hwM];exact ⟨HAQ.out.blk,H6.out,(HGQ.out.block _ (lt_of HBX.out) (by simp)).trans HBX.out⟩)
 have HAM:Hid (HomeAt wM h c F { H with mm:=H.mm }):=qh (by rw [hwM];exact HAQ.out)
 have HDM:Hid (Did wb wM F F):=qh (by rw [hwM];exact Did.of_grown F HGQ.out)
 subst hwM
 obtain ⟨⟨g1,g2⟩,⟨g3,g4,g5,g6,g7⟩,⟨g8,g9⟩⟩:=HCF.out wM HFM.out;clear g9
 go_wp2_with (first
  | (go_at_call 68;((with_reducible refine (HWT.out _).mono ?_);rintro e w5 ⟨rfl,rfl⟩)))
 refine wp_region_held_drew (S:=fun w'=>w'.heap[h]?=some (.cells #[.int .i64 c.co,.pointer (some ⟨F.mb,0,none⟩),F.ev,.map (some F.ub),.pointer (some ⟨F.pb,0,none⟩)] 88 (0,0))∧w'.heap[B5]?=some (.cells #[.int .u8 ak,.int .i64 af,.int .u32 (m:Int),.bool r,.int .u64 l] 93 (0,0))∧w'.heap[w.heap.size]?=some (.cells (na n) 45 (0,0))) (by kernel_rfl) ⟨HFM.out.1,HFM.out.2.1,HFM.out.2.2⟩ (fun hHeld=>?_)
 have hAd:=HAM.out.grown (tt.grown_drew (grown_refl wM none))
 have hDd:=HDM.out.trans (Did.of_grown F (tt.grown_drew (grown_refl wM none)))
 generalize wM.drew=wd2 at hAd hDd hHeld ⊢
 refine tl 0 ?_ rfl ?_ ?_ (tl 1 ?_ rfl ?_ ?_ (tl 2 ?_ rfl ?_ ?_ (tl 3 ?_ rfl ?_ ?_ (tl 4 ?_ rfl ?_ ?_ (tl 5 ?_ rfl ?_ ?_ (tl 6 ?_ rfl ?_ ?_ ?_))))))
 iterate 7 (rotate_left;(next=>(try simp only [lay]);((intro w0 hSw;obtain ⟨⟨hs0,hs1⟩,⟨hs2,hs3,hs4,hs5,hs6⟩,⟨hs7,hs8⟩⟩:=HCF.out w0 hSw;go_simp);try (with_reducible rfl)));next=>rfl)
 try simp only [lay]
 obtain ⟨w2,hmu,hM2,hg2⟩:=tt.run_update_map Tryz.underlying86 Tryz.underlying3 hAd.und (b:Int) (.agg #[.int .u8 ak,.int .i64 af,.int .u32 (m:Int),.bool r,.int .u64 l])
 have hd1:Did wd2 w2 F F:=Did.of_own hg2 fun i e=> .inr (.inr (.inl (Option.some.inj e).symm))
 have HF2:=qh (HKP.out _ _ hd1 hHeld)
 have HA2:=qh (hAd.setUnd (jb:=H.jb.set b (some ⟨⟨ak,af,a3,a4,a5,a6,a7,a8,a9,a10⟩,m,jd,r,l⟩)) hM2 hg2 (fun k=>und_put HBJ.out ⟨⟨ak,af,a3,a4,a5,a6,a7,a8,a9,a10⟩,m,jd,r,l⟩ k) HIJ.out (ok_set HOO.out b ⟨⟨ak,af,a3,a4,a5,a6,a7,a8,a9,a10⟩,m,jd,r,l⟩ (by
  show jd=decide (m=0)
  rw [decide_eq_false HYW.out];exact HJD.out)))
 have HD2:=qh (hDd.trans hd1)
 clear hAd hDd hM2 hg2 hd1
 refine rd 7 rfl fun K hK=>?_
 go_simp
 refine hK.out _ _ HF2.out (fun hHeld=>?_)
 clear hK K
 try simp only [lay]
 refine wpAnyH_done (by kernel_rfl) ?_ _
 clear hHeld hmu
 go_wp2_with fail
 go_ret
 have hHW:=HWY.out.1 HYW.out
 rw [hHW]
 exact ⟨F,_,rfl,HA2.out,tt.Sl.nil _ _ _,(Did.of_grown F HG.out).trans HD2.out,fun k hk=>by simp [Value.ownBlock] at hk⟩
theorem hear_non_ans (A:HomeAt w h c F H) (n:Nt) (hf:fits c n∧n.t=-1) (hw:Word n) (hT:mm.Tab w) (j:Jb) (hj:jbOf H n.b.toNat=some j) (hjd:j.d=false) (hk:n.k=9) (hh:n.h=false) (hy:(noted j n).w=0) (hyr:(noted j n).r=false):Calls Tryz.prog 44 #[.pointer (some ⟨h,0,none⟩),.agg (na n)] w fun e w'=>∃ F' v,e = .returned v ∧
  HomeAt w' h c F' (heard H n).1∧NSl w' v (heard H n).2∧Did w w' F F'∧∀ k,v.ownBlock=some k→w.heap.size ≤ k∧¬ F'.own k:=by
 obtain ⟨b,hbn⟩:∃ b:Nat,n.b=(b:Int):=⟨n.b.toNat,by have:=(blk_lt hf.1).1;omega⟩
 have hb:b < c.data.toNat:=by have:=(blk_lt hf.1).2;omega
 have HBT:Hid (n.b.toNat=b):=qh (by omega)
 rw [HBT.out] at hj
 have hjo:=A.inv.jobs b j (jbOf_get hj)
 have hnm:=A.inv.noted n hf.1 j (by rw [HBT.out];exact hj) hw
 obtain ⟨wb,hwb⟩:∃ wb,w.alloc (.cells (na n) 45)=wb:=⟨_,rfl⟩
 have hgb:w.grownBy wb none:=by rw [← hwb];exact grown_alloc (grown_refl _ _) _
 have hbx:wb.heap[w.heap.size]?=some (.cells (na n) 45 (0,0)):=by rw [← hwb];exact heap_alloc_new _ _
 have HA:Hid (∀ w',wb.grownBy w' none→HomeAt w' h c F H):=qh fun w' h'=>A.grown (grown_trans hgb h')
 have HR:Hid (∀ w':World,w'.heap[w.heap.size]?=some (.cells (na n) 45 (0,0))→w'.rangeAt w.heap.size 0 (nt n)):=qh fun w' h'=>tt.range_of h'
 have HOL:Hid (∀ i,F.own i→i < w.heap.size):=qh fun i hi=>A.own_lt hi
 have HOH:=qh A.h_own
 have HLH:=qh A.lt
 have HBJ:Hid (b < H.jb.length):=qh (by rw [A.inv.lj];exact hb)
 have HBM:Hid (b < H.mm.length):=qh (by rw [A.inv.lm];have h1:=A.inv.may.2;have h2:=data_le A.inv.may;omega)
 have HIM:Hid (Inv c { H with mm:=if n.h then H.mm.set b n.d else H.mm }):=qh (A.inv.mem n.h b n.d n.hd)
 have HIJ:Hid (Inv c { H with mm:=if n.h then H.mm.set b n.d else H.mm,jb:=H.jb.set b (some (noted j n)) }):=qh (by rw [HBT.out] at hnm;exact hnm)
 have HOO:=qh A.ok
 have HTT:=qh hT
 have HLOW:=qh A.low
 have HLK:Hid (∀ w',wb.grownBy w' none→(Instr.lookup 86 (.map (some F.ub)) (.int .i64 (b:Int)) false).run Tryz.prog w' = .ok (.agg (askA j)) w'):=qh fun w' h'=>by
  have:=(HA.out w' h').look1 b
  unfold askOr at this
  rw [hj] at this
  exact this
 have HJW:=qh hjo.w
 have HJB:Hid (JobOk c b (noted j n)):=qh (HIJ.out.jobs b (noted j n) (by show (H.jb.set b (some (noted j n)))[b]?=_;rw [List.getElem?_set_self HBJ.out]))
 have HNB:=qh hbn
 have HG:=qh hgb
 have HBX:=qh hbx
 have HF0:=qh hf
 have HBL:=qh hb
 have HNO:Hid (noted j n=⟨j.a,wo j.w n.f,j.d,j.r || decide (n.k=10),if n.k=10∧(j.r=false ∨ n.st < j.l) then n.st else j.l⟩):=qh rfl
 have HWO:=qh (wo_lt j.w n.f hjo.w)
 have HJD:Hid (j.d=false):=qh hjd
 obtain ⟨t9,mm9,HT9,hagg9,hsize9,hld9⟩:=nameB
 have HLD:Hid (∀ w':World,_):=qh fun w':World=>hld9 w.heap.size n w'
 have HWY:=qh (heard_ways H n b HBT.out HBJ.out j hj)
 have e10:(n.k == 10)=false:=by rw [hk];rfl
 have HYW:=qh hy
 have HYR:=qh hyr
 have HJR:Hid ((noted j n).r=j.r∧(noted j n).l=j.l):=qh (by unfold noted;simp [hk])
 have HM0:Hid ((if n.h=true then H.mm.set b n.d else H.mm)=H.mm):=qh (by rw [hh];rfl)
 rw [HM0.out] at HIM HIJ HWY
 have HNH:=qh hh
 clear A hgb hbx hjo hnm hf hb hbn hT hj hw hld9 hjd hk hh hy hyr
 generalize noted j n=J at *
 have HJA:Hid (J.a=j.a∧J.d=j.d∧J.w=wo j.w n.f):=qh (by rw [HNO.out];exact ⟨rfl,rfl,rfl⟩)
 obtain ⟨ja,m,jd,r,l⟩:=J
 obtain ⟨aa,m0,d0,r0,l0⟩:=j
 have hja:=HJA.out
 dsimp only at hja HWY HJB HIJ HNO  HLK HJW HWO HJD
 obtain ⟨rfl,rfl,hmw⟩:=hja
 obtain ⟨ak,af,a3,a4,a5,a6,a7,a8,a9,a10⟩:=ja
 have HWT:Hid (∀ w,_):=qh fun w=>mm.wout_any m0 n.f w HJW.out
 rw [← hmw] at HWT
 unfold askA at HLK
 dsimp only at HLK  HWY HJB
 clear hmw HNO
 obtain ⟨rfl,rfl⟩:=HJR.out
 obtain rfl:r=false:=HYR.out
 have HK:Hid (∀ w',wb.grownBy w' none→w'.cell? ⟨h,3,none⟩=some (.map (some F.ub))∧w'.cell? ⟨w.heap.size,3,none⟩=some (.int .i64 (b:Int))):=qh fun w' h'=>⟨(HA.out w' h').cells.2.2.2.1,by rw [← HNB.out];exact tt.cell_at (HR.out w' ((h'.block _ (lt_of HBX.out) (by simp)).trans HBX.out)) 3 _ rfl⟩
 have HLK2:Hid (∀ w',wb.grownBy w' none→(Instr.lookup 86 (.map (some F.ub)) (.int .i64 (b:Int)) false).run Tryz.prog w' = .ok (.agg #[.int .u8 ak,.int .i64 af,.int .u32 (m0:Int),.bool false,.int .u64 l]) w'):=HLK
 go_enter Tryz.func44,Tryz.ntmps44
 go_wp2_with fail
 refine wp_region_held_drew (S:=fun w'=>wb.grownBy w' none) (by kernel_rfl) (tt.grown_drew (grown_refl _ _)) (fun hHeld=>?_)
 generalize wb.drew=wd at hHeld ⊢
 have HD0:=qh hHeld
 refine tl 0 ?_ rfl ?_ ?_ (tl 1 ?_ rfl ?_ ?_ (tl 2 ?_ rfl ?_ ?_ (tl 3 ?_ rfl ?_ ?_ (tl 4 ?_ rfl ?_ ?_ (tl 5 ?_ rfl ?_ ?_ (tl 6 ?_ rfl ?_ ?_ ?_))))))
 iterate 7 (rotate_left;(next=>(try simp only [lay]);((intro w0 hSw;obtain ⟨hs1,hs2⟩:=HK.out w0 hSw;have hs3:=HLK2.out w0 hSw;go_simp);try (with_reducible rfl)));next=>rfl)
 try simp only [lay]
 refine rd 7 rfl fun K hK=>?_
 go_simp
 refine hK.out _ _ (grown_alloc HD0.out _) (fun hHeld=>?_)
 clear hK K
 try simp only [lay]
 refine rd 8 rfl fun K hK=>?_
 go_simp
 refine hK.out _ _ (grown_alloc HD0.out _) (fun hHeld=>?_)
 clear hK K
 try simp only [lay]
 refine wpAnyH_done (by kernel_rfl) ?_ _
 clear hHeld
 have hl1:w.heap.size < wd.heap.size:=Nat.lt_of_lt_of_le (lt_of HBX.out) HD0.out.size
 have HB5:Hid (wb.heap.size ≤ wd.heap.size):=qh HD0.out.size
 obtain ⟨wP,hwP⟩:∃ wP,wd.alloc (.cells #[.int .u8 ak,.int .i64 af,.int .u32 (m0:Int),.bool false,.int .u64 l] 93)=wP:=⟨_,rfl⟩
 have h5:wP.heap[wd.heap.size]?=some (.cells #[.int .u8 ak,.int .i64 af,.int .u32 (m0:Int),.bool false,.int .u64 l] 93 (0,0)):=by rw [← hwP];exact heap_alloc_new _ _
 have hgP:wb.grownBy wP none:=by rw [← hwP];exact grown_alloc HD0.out _
 rw [hwP]
 obtain ⟨B5,hB⟩:∃ B,wd.heap.size=B:=⟨_,rfl⟩
 rw [hB] at h5 HB5 hl1 ⊢
 have HL1:=qh hl1
 have hnr:=HR.out wP ((hgP.block _ (lt_of HBX.out) (by simp)).trans HBX.out)
 have n0:=tt.cell_at hnr 0 _ rfl
 have n1:=tt.cell_at hnr 1 _ rfl
 have p2:=cr h5 2 rfl
 have f2:wP.frozen? ⟨B5,2,none⟩=false:=by simp [World.frozen?,h5]
 obtain ⟨wQ,hwQ⟩:∃ wQ,wP.setCell ⟨B5,2,none⟩ (.int .u32 (m:Int))=wQ:=⟨_,rfl⟩
 have h6:wQ.heap[B5]?=some (.cells #[.int .u8 ak,.int .i64 af,.int .u32 (m:Int),.bool false,.int .u64 l] 93 (0,0)):=by rw [← hwQ];exact setCell_heap h5 2 _
 have hgQ:wb.grownBy wQ none:=by rw [← hwQ];exact grown_put1 hgP HB5.out
 have hnq:=HR.out wQ ((hgQ.block _ (lt_of HBX.out) (by simp)).trans HBX.out)
 have m0':=tt.cell_at hnq 0 _ rfl
 have m4':=tt.cell_at hnq 4 _ rfl
 have m6':=tt.cell_at hnq 6 _ rfl
 rw [HNH.out] at m6'
 have m1':=tt.cell_at hnq 3 _ rfl
 rw [HNB.out] at m1'
 have s0:=cr h6 0 rfl
 have s1:=cr h6 1 rfl
 have s2:=cr h6 2 rfl
 have s3:=cr h6 3 rfl
 have s4:=cr h6 4 rfl
 have HGQ:=qh hgQ
 have H6:=qh h6
 have HAQ:=qh (HA.out _ hgQ)
 have hq1:=HAQ.out.cells.2.1
 have hq3:=HAQ.out.cells.2.2.2.1
 clear hwP h5 hgP hB hnr hnq h6 hgQ hl1
 have em:((m:Int) != 0)=false:=by have hz:m=0:=HYW.out;rw [hz];rfl
 have HCF:Hid (∀ w':World,(w'.heap[h]?=some (.cells #[.int .i64 c.co,.pointer (some ⟨F.mb,0,none⟩),F.ev,.map (some F.ub),.pointer (some ⟨F.pb,0,none⟩)] 88 (0,0))∧w'.heap[B5]?=some (.cells #[.int .u8 ak,.int .i64 af,.int .u32 (m:Int),.bool false,.int .u64 l] 93 (0,0))∧w'.heap[w.heap.size]?=some (.cells (na n) 45 (0,0)))→(w'.cell? ⟨h,1,none⟩=some (.pointer (some ⟨F.mb,0,none⟩))∧w'.cell? ⟨h,3,none⟩=some (.map (some F.ub)))∧(w'.cell? ⟨B5,0,none⟩=some (.int .u8 ak)∧w'.cell? ⟨B5,1,none⟩=some (.int .i64 af)∧w'.cell? ⟨B5,2,none⟩=some (.int .u32 (m:Int))∧w'.cell? ⟨B5,3,none⟩=some (.bool false)∧w'.cell? ⟨B5,4,none⟩=some (.int .u64 l))∧(w'.cell? ⟨w.heap.size,3,none⟩=some (.int .i64 (b:Int))∧(loadCellsFrom ⟨w.heap.size,8,none⟩ 0 mm9 #[]).run Tryz.prog w' = .ok (pp.row n.d) w')):=qh fun w' ⟨e1,e2,e3⟩=>⟨⟨cr e1 1 rfl,cr e1 3 rfl⟩,⟨cr e2 0 rfl,cr e2 1 rfl,cr e2 2 rfl,cr e2 3 rfl,cr e2 4 rfl⟩,⟨by rw [← HNB.out];exact tt.cell_at (HR.out w' e3) 3 _ rfl,HLD.out w' (HR.out w' e3)⟩⟩
 have HKP:Hid (∀ w1 w2:World,Did w1 w2 F F→(w1.heap[h]?=some (.cells #[.int .i64 c.co,.pointer (some ⟨F.mb,0,none⟩),F.ev,.map (some F.ub),.pointer (some ⟨F.pb,0,none⟩)] 88 (0,0))∧w1.heap[B5]?=some (.cells #[.int .u8 ak,.int .i64 af,.int .u32 (m:Int),.bool false,.int .u64 l] 93 (0,0))∧w1.heap[w.heap.size]?=some (.cells (na n) 45 (0,0)))→(w2.heap[h]?=some (.cells #[.int .i64 c.co,.pointer (some ⟨F.mb,0,none⟩),F.ev,.map (some F.ub),.pointer (some ⟨F.pb,0,none⟩)] 88 (0,0))∧w2.heap[B5]?=some (.cells #[.int .u8 ak,.int .i64 af,.int .u32 (m:Int),.bool false,.int .u64 l] 93 (0,0))∧w2.heap[w.heap.size]?=some (.cells (na n) 45 (0,0)))):=qh fun w1 w2 d ⟨e1,e2,e3⟩=>⟨d.heap e1 HOH.out,d.heap e2 (fun e=>by have:=HOL.out _ e;have:=HL1.out;omega),d.heap e3 (fun e=>by have:=HOL.out _ e;omega)⟩
 have HAA:Hid (∀ w',HomeAt w' h c F { H with mm:=H.mm }→_):=qh fun w' hA=>answer_any hA b HBL.out ⟨⟨ak,af,a3,a4,a5,a6,a7,a8,a9,a10⟩,m,jd,false,l⟩ HJB.out HYW.out
 unfold askA at HAA
 dsimp only at HAA
 obtain ⟨wM,hwM⟩:∃ wM,wM=wQ:=⟨_,rfl⟩
 have HFM:Hid (wM.heap[h]?=some (.cells #[.int .i64 c.co,.pointer (some ⟨F.mb,0,none⟩),F.ev,.map (some F.ub),.pointer (some ⟨F.pb,0,none⟩)] 88 (0,0))∧wM.heap[B5]?=some (.cells #[.int .u8 ak,.int .i64 af,.int .u32 (m:Int),.bool false,.int .u64 l] 93 (0,0))∧wM.heap[w.heap.size]?=some (.cells (na n) 45 (0,0))):=qh (by rw [hwM];exact ⟨HAQ.out.blk,H6.out,(HGQ.out.block _ (lt_of HBX.out) (by simp)).trans HBX.out⟩)
 have HAM:Hid (HomeAt wM h c F { H with mm:=H.mm }):=qh (by rw [hwM];exact HAQ.out)
 have HDM:Hid (Did wb wM F F):=qh (by rw [hwM];exact Did.of_grown F HGQ.out)
 subst hwM
 obtain ⟨⟨g1,g2⟩,⟨g3,g4,g5,g6,g7⟩,⟨g8,g9⟩⟩:=HCF.out wM HFM.out;clear g9
 go_wp2_with (first
  | (go_at_call 68;((with_reducible refine (HWT.out _).mono ?_);rintro e w5 ⟨rfl,rfl⟩))
  | (go_at_call 71;((with_reducible refine (HAA.out wM HAM.out).mono ?_);rintro e w1 ⟨v,rfl,hA1,hS1,hD1,hf1⟩;have HA1:=qh hA1;have HS1:=qh hS1;have HD1:=qh hD1;have HF1:=qh hf1;clear hA1 hS1 hD1 hf1)))
 go_ret
 have hHW:=HWY.out.2.2 HYW.out (by first | rfl | trivial)
 try dsimp only at hHW
 rw [hHW]
 have HDW:Did w wM F F:=(Did.of_grown F HG.out).trans HDM.out
 exact ⟨F,v,rfl,HA1.out,HS1.out,HDW.trans HD1.out,fun k hk=>⟨Nat.le_trans HDW.size (HF1.out k hk),fun e=>Nat.lt_irrefl _ (Nat.lt_of_lt_of_le (HOL.out k e) (Nat.le_trans HDW.size (HF1.out k hk)))⟩⟩
theorem hear_non_refd (A:HomeAt w h c F H) (n:Nt) (hf:fits c n∧n.t=-1) (hw:Word n) (hT:mm.Tab w) (j:Jb) (hj:jbOf H n.b.toNat=some j) (hjd:j.d=false) (hk:n.k=9) (hh:n.h=false) (hy:(noted j n).w=0) (hyr:(noted j n).r=true):Calls Tryz.prog 44 #[.pointer (some ⟨h,0,none⟩),.agg (na n)] w fun e w'=>∃ F' v,e = .returned v ∧
  HomeAt w' h c F' (heard H n).1∧NSl w' v (heard H n).2∧Did w w' F F'∧∀ k,v.ownBlock=some k→w.heap.size ≤ k∧¬ F'.own k:=by
 obtain ⟨b,hbn⟩:∃ b:Nat,n.b=(b:Int):=⟨n.b.toNat,by have:=(blk_lt hf.1).1;omega⟩
 have hb:b < c.data.toNat:=by have:=(blk_lt hf.1).2;omega
 have HBT:Hid (n.b.toNat=b):=qh (by omega)
 rw [HBT.out] at hj
 have hjo:=A.inv.jobs b j (jbOf_get hj)
 have hnm:=A.inv.noted n hf.1 j (by rw [HBT.out];exact hj) hw
 obtain ⟨wb,hwb⟩:∃ wb,w.alloc (.cells (na n) 45)=wb:=⟨_,rfl⟩
 have hgb:w.grownBy wb none:=by rw [← hwb];exact grown_alloc (grown_refl _ _) _
 have hbx:wb.heap[w.heap.size]?=some (.cells (na n) 45 (0,0)):=by rw [← hwb];exact heap_alloc_new _ _
 have HA:Hid (∀ w',wb.grownBy w' none→HomeAt w' h c F H):=qh fun w' h'=>A.grown (grown_trans hgb h')
 have HR:Hid (∀ w':World,w'.heap[w.heap.size]?=some (.cells (na n) 45 (0,0))→w'.rangeAt w.heap.size 0 (nt n)):=qh fun w' h'=>tt.range_of h'
 have HOL:Hid (∀ i,F.own i→i < w.heap.size):=qh fun i hi=>A.own_lt hi
 have HOH:=qh A.h_own
 have HLH:=qh A.lt
 have HBJ:Hid (b < H.jb.length):=qh (by rw [A.inv.lj];exact hb)
 have HBM:Hid (b < H.mm.length):=qh (by rw [A.inv.lm];have h1:=A.inv.may.2;have h2:=data_le A.inv.may;omega)
 have HIM:Hid (Inv c { H with mm:=if n.h then H.mm.set b n.d else H.mm }):=qh (A.inv.mem n.h b n.d n.hd)
 have HIJ:Hid (Inv c { H with mm:=if n.h then H.mm.set b n.d else H.mm,jb:=H.jb.set b (some (noted j n)) }):=qh (by rw [HBT.out] at hnm;exact hnm)
 have HOO:=qh A.ok
 have HTT:=qh hT
 have HLOW:=qh A.low
 have HLK:Hid (∀ w',wb.grownBy w' none→(Instr.lookup 86 (.map (some F.ub)) (.int .i64 (b:Int)) false).run Tryz.prog w' = .ok (.agg (askA j)) w'):=qh fun w' h'=>by
  have:=(HA.out w' h').look1 b
  unfold askOr at this
  rw [hj] at this
  exact this
 have HJW:=qh hjo.w
 have HJB:Hid (JobOk c b (noted j n)):=qh (HIJ.out.jobs b (noted j n) (by show (H.jb.set b (some (noted j n)))[b]?=_;rw [List.getElem?_set_self HBJ.out]))
 have HNB:=qh hbn
 have HG:=qh hgb
 have HBX:=qh hbx
 have HF0:=qh hf
 have HBL:=qh hb
 have HNO:Hid (noted j n=⟨j.a,wo j.w n.f,j.d,j.r || decide (n.k=10),if n.k=10∧(j.r=false ∨ n.st < j.l) then n.st else j.l⟩):=qh rfl
 have HWO:=qh (wo_lt j.w n.f hjo.w)
 have HJD:Hid (j.d=false):=qh hjd
 obtain ⟨t9,mm9,HT9,hagg9,hsize9,hld9⟩:=nameB
 have HLD:Hid (∀ w':World,_):=qh fun w':World=>hld9 w.heap.size n w'
 have HWY:=qh (heard_ways H n b HBT.out HBJ.out j hj)
 have e10:(n.k == 10)=false:=by rw [hk];rfl
 have HYW:=qh hy
 have HYR:=qh hyr
 have HJR:Hid ((noted j n).r=j.r∧(noted j n).l=j.l):=qh (by unfold noted;simp [hk])
 have HM0:Hid ((if n.h=true then H.mm.set b n.d else H.mm)=H.mm):=qh (by rw [hh];rfl)
 rw [HM0.out] at HIM HIJ HWY
 have HNH:=qh hh
 clear A hgb hbx hjo hnm hf hb hbn hT hj hw hld9 hjd hk hh hy hyr
 generalize noted j n=J at *
 have HJA:Hid (J.a=j.a∧J.d=j.d∧J.w=wo j.w n.f):=qh (by rw [HNO.out];exact ⟨rfl,rfl,rfl⟩)
 obtain ⟨ja,m,jd,r,l⟩:=J
 obtain ⟨aa,m0,d0,r0,l0⟩:=j
 have hja:=HJA.out
 dsimp only at hja HWY HJB HIJ HNO  HLK HJW HWO HJD
 obtain ⟨rfl,rfl,hmw⟩:=hja
 obtain ⟨ak,af,a3,a4,a5,a6,a7,a8,a9,a10⟩:=ja
 have HWT:Hid (∀ w,_):=qh fun w=>mm.wout_any m0 n.f w HJW.out
 rw [← hmw] at HWT
 unfold askA at HLK
 dsimp only at HLK  HWY HJB
 clear hmw HNO
 obtain ⟨rfl,rfl⟩:=HJR.out
 obtain rfl:r=true:=HYR.out
 have HK:Hid (∀ w',wb.grownBy w' none→w'.cell? ⟨h,3,none⟩=some (.map (some F.ub))∧w'.cell? ⟨w.heap.size,3,none⟩=some (.int .i64 (b:Int))):=qh fun w' h'=>⟨(HA.out w' h').cells.2.2.2.1,by rw [← HNB.out];exact tt.cell_at (HR.out w' ((h'.block _ (lt_of HBX.out) (by simp)).trans HBX.out)) 3 _ rfl⟩
 have HLK2:Hid (∀ w',wb.grownBy w' none→(Instr.lookup 86 (.map (some F.ub)) (.int .i64 (b:Int)) false).run Tryz.prog w' = .ok (.agg #[.int .u8 ak,.int .i64 af,.int .u32 (m0:Int),.bool true,.int .u64 l]) w'):=HLK
 go_enter Tryz.func44,Tryz.ntmps44
 go_wp2_with fail
 refine wp_region_held_drew (S:=fun w'=>wb.grownBy w' none) (by kernel_rfl) (tt.grown_drew (grown_refl _ _)) (fun hHeld=>?_)
 generalize wb.drew=wd at hHeld ⊢
 have HD0:=qh hHeld
 refine tl 0 ?_ rfl ?_ ?_ (tl 1 ?_ rfl ?_ ?_ (tl 2 ?_ rfl ?_ ?_ (tl 3 ?_ rfl ?_ ?_ (tl 4 ?_ rfl ?_ ?_ (tl 5 ?_ rfl ?_ ?_ (tl 6 ?_ rfl ?_ ?_ ?_))))))
 iterate 7 (rotate_left;(next=>(try simp only [lay]);((intro w0 hSw;obtain ⟨hs1,hs2⟩:=HK.out w0 hSw;have hs3:=HLK2.out w0 hSw;go_simp);try (with_reducible rfl)));next=>rfl)
 try simp only [lay]
 refine rd 7 rfl fun K hK=>?_
 go_simp
 refine hK.out _ _ (grown_alloc HD0.out _) (fun hHeld=>?_)
 clear hK K
 try simp only [lay]
 refine rd 8 rfl fun K hK=>?_
 go_simp
 refine hK.out _ _ (grown_alloc HD0.out _) (fun hHeld=>?_)
 clear hK K
 try simp only [lay]
 refine wpAnyH_done (by kernel_rfl) ?_ _
 clear hHeld
 have hl1:w.heap.size < wd.heap.size:=Nat.lt_of_lt_of_le (lt_of HBX.out) HD0.out.size
 have HB5:Hid (wb.heap.size ≤ wd.heap.size):=qh HD0.out.size
 obtain ⟨wP,hwP⟩:∃ wP,wd.alloc (.cells #[.int .u8 ak,.int .i64 af,.int .u32 (m0:Int),.bool true,.int .u64 l] 93)=wP:=⟨_,rfl⟩
 have h5:wP.heap[wd.heap.size]?=some (.cells #[.int .u8 ak,.int .i64 af,.int .u32 (m0:Int),.bool true,.int .u64 l] 93 (0,0)):=by rw [← hwP];exact heap_alloc_new _ _
 have hgP:wb.grownBy wP none:=by rw [← hwP];exact grown_alloc HD0.out _
 rw [hwP]
 obtain ⟨B5,hB⟩:∃ B,wd.heap.size=B:=⟨_,rfl⟩
 rw [hB] at h5 HB5 hl1 ⊢
 have HL1:=qh hl1
 have hnr:=HR.out wP ((hgP.block _ (lt_of HBX.out) (by simp)).trans HBX.out)
 have n0:=tt.cell_at hnr 0 _ rfl
 have n1:=tt.cell_at hnr 1 _ rfl
 have p2:=cr h5 2 rfl
 have f2:wP.frozen? ⟨B5,2,none⟩=false:=by simp [World.frozen?,h5]
 obtain ⟨wQ,hwQ⟩:∃ wQ,wP.setCell ⟨B5,2,none⟩ (.int .u32 (m:Int))=wQ:=⟨_,rfl⟩
 have h6:wQ.heap[B5]?=some (.cells #[.int .u8 ak,.int .i64 af,.int .u32 (m:Int),.bool true,.int .u64 l] 93 (0,0)):=by rw [← hwQ];exact setCell_heap h5 2 _
 have hgQ:wb.grownBy wQ none:=by rw [← hwQ];exact grown_put1 hgP HB5.out
 have hnq:=HR.out wQ ((hgQ.block _ (lt_of HBX.out) (by simp)).trans HBX.out)
 have m0':=tt.cell_at hnq 0 _ rfl
 have m4':=tt.cell_at hnq 4 _ rfl
 have m6':=tt.cell_at hnq 6 _ rfl
 rw [HNH.out] at m6'
 have m1':=tt.cell_at hnq 3 _ rfl
 rw [HNB.out] at m1'
 have s0:=cr h6 0 rfl
 have s1:=cr h6 1 rfl
 have s2:=cr h6 2 rfl
 have s3:=cr h6 3 rfl
 have s4:=cr h6 4 rfl
 have HGQ:=qh hgQ
 have H6:=qh h6
 have HAQ:=qh (HA.out _ hgQ)
 have hq1:=HAQ.out.cells.2.1
 have hq3:=HAQ.out.cells.2.2.2.1
 clear hwP h5 hgP hB hnr hnq h6 hgQ hl1
 have em:((m:Int) != 0)=false:=by have hz:m=0:=HYW.out;rw [hz];rfl
 have HCF:Hid (∀ w':World,(w'.heap[h]?=some (.cells #[.int .i64 c.co,.pointer (some ⟨F.mb,0,none⟩),F.ev,.map (some F.ub),.pointer (some ⟨F.pb,0,none⟩)] 88 (0,0))∧w'.heap[B5]?=some (.cells #[.int .u8 ak,.int .i64 af,.int .u32 (m:Int),.bool true,.int .u64 l] 93 (0,0))∧w'.heap[w.heap.size]?=some (.cells (na n) 45 (0,0)))→(w'.cell? ⟨h,1,none⟩=some (.pointer (some ⟨F.mb,0,none⟩))∧w'.cell? ⟨h,3,none⟩=some (.map (some F.ub)))∧(w'.cell? ⟨B5,0,none⟩=some (.int .u8 ak)∧w'.cell? ⟨B5,1,none⟩=some (.int .i64 af)∧w'.cell? ⟨B5,2,none⟩=some (.int .u32 (m:Int))∧w'.cell? ⟨B5,3,none⟩=some (.bool true)∧w'.cell? ⟨B5,4,none⟩=some (.int .u64 l))∧(w'.cell? ⟨w.heap.size,3,none⟩=some (.int .i64 (b:Int))∧(loadCellsFrom ⟨w.heap.size,8,none⟩ 0 mm9 #[]).run Tryz.prog w' = .ok (pp.row n.d) w')):=qh fun w' ⟨e1,e2,e3⟩=>⟨⟨cr e1 1 rfl,cr e1 3 rfl⟩,⟨cr e2 0 rfl,cr e2 1 rfl,cr e2 2 rfl,cr e2 3 rfl,cr e2 4 rfl⟩,⟨by rw [← HNB.out];exact tt.cell_at (HR.out w' e3) 3 _ rfl,HLD.out w' (HR.out w' e3)⟩⟩
 have HKP:Hid (∀ w1 w2:World,Did w1 w2 F F→(w1.heap[h]?=some (.cells #[.int .i64 c.co,.pointer (some ⟨F.mb,0,none⟩),F.ev,.map (some F.ub),.pointer (some ⟨F.pb,0,none⟩)] 88 (0,0))∧w1.heap[B5]?=some (.cells #[.int .u8 ak,.int .i64 af,.int .u32 (m:Int),.bool true,.int .u64 l] 93 (0,0))∧w1.heap[w.heap.size]?=some (.cells (na n) 45 (0,0)))→(w2.heap[h]?=some (.cells #[.int .i64 c.co,.pointer (some ⟨F.mb,0,none⟩),F.ev,.map (some F.ub),.pointer (some ⟨F.pb,0,none⟩)] 88 (0,0))∧w2.heap[B5]?=some (.cells #[.int .u8 ak,.int .i64 af,.int .u32 (m:Int),.bool true,.int .u64 l] 93 (0,0))∧w2.heap[w.heap.size]?=some (.cells (na n) 45 (0,0)))):=qh fun w1 w2 d ⟨e1,e2,e3⟩=>⟨d.heap e1 HOH.out,d.heap e2 (fun e=>by have:=HOL.out _ e;have:=HL1.out;omega),d.heap e3 (fun e=>by have:=HOL.out _ e;omega)⟩
 obtain ⟨x,hx⟩:∃ x,x=bare 7 (-1) af (b:Int) l 0 false false:=⟨_,rfl⟩
 have hA:_=na (bare 7 (-1) af (b:Int) l 0 false false):=(tt.bare_na 7 (-1) af (b:Int) l 0 false false).symm
 rw [← hx] at hA
 have hZ:=tt.bare_na 0 0 0 0 0 0 false false
 have HXX:=qh hx
 have HZS:=qh (hZ ▸ tt.na_size (bare 0 0 0 0 0 0 false false))
 clear hx hZ
 obtain ⟨wM,hwM⟩:∃ wM,wM=wQ:=⟨_,rfl⟩
 have HFM:Hid (wM.heap[h]?=some (.cells #[.int .i64 c.co,.pointer (some ⟨F.mb,0,none⟩),F.ev,.map (some F.ub),.pointer (some ⟨F.pb,0,none⟩)] 88 (0,0))∧wM.heap[B5]?=some (.cells #[.int .u8 ak,.int .i64 af,.int .u32 (m:Int),.bool true,.int .u64 l] 93 (0,0))∧wM.heap[w.heap.size]?=some (.cells (na n) 45 (0,0))):=qh (by rw [hwM];exact ⟨HAQ.out.blk,H6.out,(HGQ.out.block _ (lt_of HBX.out) (by simp)).trans HBX.out⟩)
 have HAM:Hid (HomeAt wM h c F { H with mm:=H.mm }):=qh (by rw [hwM];exact HAQ.out)
 have HDM:Hid (Did wb wM F F):=qh (by rw [hwM];exact Did.of_grown F HGQ.out)
 subst hwM
 obtain ⟨⟨g1,g2⟩,⟨g3,g4,g5,g6,g7⟩,⟨g8,g9⟩⟩:=HCF.out wM HFM.out;clear g9
 go_wp2_with (first
  | (go_at_call 68;((with_reducible refine (HWT.out _).mono ?_);rintro e w5 ⟨rfl,rfl⟩))
  | ((with_reducible refine tt.store_new x _ _ _ ?_ ?_ HZS.out ?_);(rfl);(rfl)))
 have HDW:Hid (Did w wM F F):=qh ((Did.of_grown F HG.out).trans HDM.out)
 have HM5:Hid (w.heap.size < wM.heap.size):=qh (lt_of HFM.out.2.2)
 have hga:wM.grownBy (wM.alloc (.cells (na x) 45)) none:=grown_alloc (grown_refl _ _) _
 have HFN:Hid ((wM.alloc (.cells (na x) 45)).heap[h]?=some (.cells #[.int .i64 c.co,.pointer (some ⟨F.mb,0,none⟩),F.ev,.map (some F.ub),.pointer (some ⟨F.pb,0,none⟩)] 88 (0,0))∧(wM.alloc (.cells (na x) 45)).heap[B5]?=some (.cells #[.int .u8 ak,.int .i64 af,.int .u32 (m:Int),.bool true,.int .u64 l] 93 (0,0))∧(wM.alloc (.cells (na x) 45)).heap[w.heap.size]?=some (.cells (na n) 45 (0,0))):=qh (HKP.out _ _ (Did.of_grown F hga) HFM.out)
 have HAN:=qh (HAM.out.grown hga)
 have HDN:=qh (HDW.out.trans (Did.of_grown F hga))
 have HBX2:Hid ((wM.alloc (.cells (na x) 45)).heap[wM.heap.size]?=some (.cells (na x) 45 (0,0))):=qh (heap_alloc_new _ _)
 obtain ⟨BN,hBN⟩:∃ B,wM.heap.size=B:=⟨_,rfl⟩
 have HBE:=qh hBN
 obtain ⟨wN,hwN⟩:∃ wN,wM.alloc (.cells (na x) 45)=wN:=⟨_,rfl⟩
 rw [hwN,hBN] at HBX2
 rw [hwN] at HFN HAN HDN
 rw [hwN,hBN]
 rw [hBN] at HM5
 clear hga hwN hBN g1 g2 g3 g4 g5 g6 g7 g8 hA
 obtain ⟨t',mm,HTL,hagg,hsize,hld⟩:=tt.named
 have hsz:=tt.na_size x
 have hfd:=tt.build_na x
 obtain ⟨i0,hi,hz0,hz1,hz2⟩:=info_parts tt.infoN
 rw [HTL.out]
 refine wp_region_held_drew (S:=fun w'=>w'.heap[BN]?=some (.cells (na x) 45 (0,0))∧w'.heap[w.heap.size]?=some (.cells (na n) 45 (0,0))) (by kernel_rfl) ⟨HBX2.out,HFN.out.2.2⟩ (fun hHeld=>?_)
 have hgd:=tt.grown_drew (grown_refl wN none)
 have HAD:=qh (HAN.out.grown hgd)
 have HDD:=qh (HDN.out.trans (Did.of_grown F hgd))
 generalize wN.drew=wd2 at hHeld HAD HDD ⊢
 clear hgd
 have HH:=qh hHeld
 have HBL2:Hid (w.heap.size ≤ BN):=qh (Nat.le_of_lt HM5.out)
 have HEN:Hid (∀ W,HomeAt W h c F { H with mm:=H.mm }→Go.Proofs.YtenhdijbcdkfbaaGreatDoor.mm.Tab W→_):=qh fun W hA hT=>end_any hA b HBL.out hT
 have HTD:Hid (Go.Proofs.YtenhdijbcdkfbaaGreatDoor.mm.Tab wd2):=qh ((HDD.out.tabs HLOW.out).1 HTT.out)
 refine tl 0 ?_ rfl ?_ ?_ (tl 2 ?_ rfl ?_ ?_ (tl 3 ?_ rfl ?_ ?_ (tl 4 ?_ rfl ?_ ?_ ?_)))
 iterate 4 (rotate_left;(next=>(try simp only [lay]);((intro w0 hSw;obtain ⟨hq1,hq2⟩:=hSw;have hs1:=hld BN x w0 (tt.range_of hq1);have hs2:w0.cell? ⟨w.heap.size,3,none⟩=some (.int .i64 (b:Int)):=(by rw [← HNB.out];exact tt.cell_at (HR.out w0 hq2) 3 _ rfl);go_simp);try (with_reducible rfl)));next=>rfl)
 try simp only [lay]
 refine wpAnyH_ready (rs:=[1,5]) (by kernel_rfl) (by simp) ?_
 refine ac rfl (fun K hK=>?_) (ac rfl (fun K hK=>?_) AllReadyH.nil)
 ·skip
  go_simp
  have hgB:wd2.grownBy (wd2.alloc (.cells (na x) 45)) none:=grown_alloc (grown_refl _ _) _
  have HAB:=qh (HAD.out.grown hgB)
  have HDB:=qh (HDD.out.trans (Did.of_grown F hgB))
  have HSB:Hid (NSl (wd2.alloc (.cells (na x) 45)) (.slice (some ⟨wd2.heap.size,0,none⟩) 1 1) [x]):=qh (nsl_one (heap_alloc_new _ _))
  have HXB:Hid ((wd2.alloc (.cells (na x) 45)).heap[BN]?=some (.cells (na x) 45 (0,0))∧(wd2.alloc (.cells (na x) 45)).heap[w.heap.size]?=some (.cells (na n) 45 (0,0))):=qh ⟨(hgB.block _ (lt_of HH.out.1) (by simp)).trans HH.out.1,(hgB.block _ (lt_of HH.out.2) (by simp)).trans HH.out.2⟩
  have HTB:Hid (Go.Proofs.YtenhdijbcdkfbaaGreatDoor.mm.Tab (wd2.alloc (.cells (na x) 45))):=qh (mtab_grown HTD.out hgB)
  refine hK.out _ _ HXB.out (fun hHeld=>?_)
  clear hK K hgB
  try simp only [lay]
  refine rd 5 rfl fun K hK=>?_
  go_simp
  (with_reducible refine (HEN.out _ HAB.out HTB.out).mono ?_);rintro e w9 ⟨F9,v,rfl,hA9,hS9,hD9,hf9⟩
  have HA9:=qh hA9
  have HVS:=qh hS9
  have HVL:Hid ((fin { H with mm:=H.mm } b).2.length ≤ 3000000):=qh (fin_len HAB.out)
  have hno:∀ k,w.heap.size ≤ k→¬ F.own k:=fun k hk e=>by have:=HOL.out k e;omega
  have HD9:=qh (HDB.out.trans hD9)
  have HSL:Hid (NSl w9 (.slice (some ⟨wd2.heap.size,0,none⟩) 1 1) [x]):=qh (hD9.sl HSB.out (fun k e=>hno k (by simp [Value.ownBlock] at e;have:=HDD.out.size;omega)))
  have HSO:Hid (∀ k,(Value.slice (some ⟨wd2.heap.size,0,none⟩) 1 1).ownBlock=some k→¬ F9.own k):=qh fun k e=>hD9.own (HSB.out.lt k e) (hno k (by simp [Value.ownBlock] at e;have:=HDD.out.size;omega))
  have HSG:Hid (∀ k,(Value.slice (some ⟨wd2.heap.size,0,none⟩) 1 1).ownBlock=some k→w.heap.size ≤ k):=qh fun k e=>by simp [Value.ownBlock] at e;have:=HDD.out.size;omega
  have HSN:Hid (∀ k,(Value.slice (some ⟨wd2.heap.size,0,none⟩) 1 1).ownBlock=some k→¬ (k=BN ∨ k=w.heap.size)):=qh fun k e=>by simp [Value.ownBlock] at e;have:=lt_of HH.out.1;have:=lt_of HH.out.2;omega
  have HX9:Hid (w9.heap[BN]?=some (.cells (na x) 45 (0,0))∧w9.heap[w.heap.size]?=some (.cells (na n) 45 (0,0))):=qh ⟨hD9.heap HXB.out.1 (hno _ HBL2.out),hD9.heap HXB.out.2 (hno _ (Nat.le_refl _))⟩
  clear hA9 hS9 hD9 hf9 hno
  go_wp2_with fail
  refine hK.out _ _ HX9.out (fun hHeld=>?_)
  clear hK K
  try simp only [lay]
  refine rd 6 rfl fun K hK=>?_
  refine tt.step_append_sl rfl (.tmp 60) (.tmp 64) 24 24 rfl 45 24 i0 (.agg (na zn)) 112 Tryz.underlying24 hi hz0 hz1 hz2 tt.zn_cells _ 1 (flat nt [x]) rfl HSL.out (fin { H with mm:=H.mm } b).2.length (flat nt (fin { H with mm:=H.mm } b).2) (by simpa [Act.eval] using HVS.out.src Tryz.underlying24 (tt.nflat_one _)) (by have:=HVL.out;unfold maxLen;omega) (by have:=HVL.out;omega) ?_
  intro v' w4 hsl4 hgr4 hnx4
  have HNS:Hid (NSl w4 v' (x :: (fin { H with mm:=H.mm } b).2)):=qh (by
   have:=hsl4
   rw [← tt.flat_append] at this
   show tt.Sl _ _ 24 v' (x :: (fin { H with mm:=H.mm } b).2).length (flat nt (x :: (fin { H with mm:=H.mm } b).2))
   rw [show (x :: (fin { H with mm:=H.mm } b).2).length=1 + (fin { H with mm:=H.mm } b).2.length by simp;omega]
   exact this)
  have HA4:=qh (HA9.out.other' hgr4 (fun k e=>HSO.out k e) (fun k e=>by obtain ⟨cur,hc⟩:=HSL.out.type k e;exact ⟨cur,hc⟩))
  have HD4:=qh (HD9.out.fresh hgr4 (fun k e=>HSG.out k e))
  have HV4:Hid (∀ k,v'.ownBlock=some k→w.heap.size ≤ k∧¬ F9.own k):=qh fun k hk=>⟨hnx4.ge HD9.out.size (fun k e=>HSG.out k e) k hk,fun e=>hnx4.elim (fun h1=>HSO.out k (h1 ▸ hk) e) (fun h1=>Nat.lt_irrefl _ (Nat.lt_of_lt_of_le (HA9.out.own_lt e) (h1 k hk)))⟩
  refine hK.out _ _ ⟨(hgr4.block _ (lt_of HX9.out.1) (fun e=>HSN.out BN e.symm (Or.inl rfl))).trans HX9.out.1,(hgr4.block _ (lt_of HX9.out.2) (fun e=>HSN.out _ e.symm (Or.inr rfl))).trans HX9.out.2⟩ (fun hHeld=>?_)
  clear hK K hsl4 hgr4 hnx4
  try simp only [lay]
  refine tl 7 ?_ rfl ?_ ?_ ?_
  (rotate_left;(next=>((intro w0 hSw;go_simp);try (with_reducible rfl)));next=>rfl)
  try simp only [lay]
  refine wpAnyH_done (by kernel_rfl) ?_ _
  clear hHeld
  go_wp2_with fail
  go_ret
  have hHW:=HWY.out.2.1 HYW.out (by first | rfl | trivial)
  rw [hHW,HNB.out]
  try dsimp only
  rw [← HXX.out]
  exact ⟨F9,v',rfl,HA4.out,HNS.out,HD4.out,HV4.out⟩
 ·skip
  go_simp
  (with_reducible refine (HEN.out _ HAD.out HTD.out).mono ?_);rintro e w8 ⟨F9,v,rfl,hA9,hS9,hD9,hf9⟩
  have hgB:w8.grownBy (w8.alloc (.cells (na x) 45)) none:=grown_alloc (grown_refl _ _) _
  have HA9:=qh (hA9.grown hgB)
  have HVS:=qh (hS9.grown hgB)
  have HVL:Hid ((fin { H with mm:=H.mm } b).2.length ≤ 3000000):=qh (fin_len HAD.out)
  have hno:∀ k,w.heap.size ≤ k→¬ F.own k:=fun k hk e=>by have:=HOL.out k e;omega
  have HX8:Hid (w8.heap[BN]?=some (.cells (na x) 45 (0,0))∧w8.heap[w.heap.size]?=some (.cells (na n) 45 (0,0))):=qh ⟨hD9.heap HH.out.1 (hno _ HBL2.out),hD9.heap HH.out.2 (hno _ (Nat.le_refl _))⟩
  have HD8:=qh (HDD.out.trans hD9)
  have HD9:=qh (HD8.out.trans (Did.of_grown F9 hgB))
  have HSL:Hid (NSl (w8.alloc (.cells (na x) 45)) (.slice (some ⟨w8.heap.size,0,none⟩) 1 1) [x]):=qh (nsl_one (heap_alloc_new _ _))
  have HSO:Hid (∀ k,(Value.slice (some ⟨w8.heap.size,0,none⟩) 1 1).ownBlock=some k→¬ F9.own k):=qh fun k e=>by
   simp [Value.ownBlock] at e
   exact fun ho=>by have:=hA9.own_lt ho;omega
  have HSG:Hid (∀ k,(Value.slice (some ⟨w8.heap.size,0,none⟩) 1 1).ownBlock=some k→w.heap.size ≤ k):=qh fun k e=>by simp [Value.ownBlock] at e;have:=HD8.out.size;omega
  have HSN:Hid (∀ k,(Value.slice (some ⟨w8.heap.size,0,none⟩) 1 1).ownBlock=some k→¬ (k=BN ∨ k=w.heap.size)):=qh fun k e=>by simp [Value.ownBlock] at e;have:=lt_of HX8.out.1;have:=lt_of HX8.out.2;omega
  have HX9:Hid ((w8.alloc (.cells (na x) 45)).heap[BN]?=some (.cells (na x) 45 (0,0))∧(w8.alloc (.cells (na x) 45)).heap[w.heap.size]?=some (.cells (na n) 45 (0,0))):=qh ⟨(hgB.block _ (lt_of HX8.out.1) (by simp)).trans HX8.out.1,(hgB.block _ (lt_of HX8.out.2) (by simp)).trans HX8.out.2⟩
  clear hA9 hS9 hD9 hf9 hno hgB
  go_wp2_with fail
  refine hK.out _ _ HX8.out (fun hHeld=>?_)
  clear hK K
  try simp only [lay]
  refine rd 1 rfl fun K hK=>?_
  go_simp
  refine hK.out _ _ HX9.out (fun hHeld=>?_)
  clear hK K
  try simp only [lay]
  refine rd 6 rfl fun K hK=>?_
  refine tt.step_append_sl rfl (.tmp 60) (.tmp 64) 24 24 rfl 45 24 i0 (.agg (na zn)) 112 Tryz.underlying24 hi hz0 hz1 hz2 tt.zn_cells _ 1 (flat nt [x]) rfl HSL.out (fin { H with mm:=H.mm } b).2.length (flat nt (fin { H with mm:=H.mm } b).2) (by simpa [Act.eval] using HVS.out.src Tryz.underlying24 (tt.nflat_one _)) (by have:=HVL.out;unfold maxLen;omega) (by have:=HVL.out;omega) ?_
  intro v' w4 hsl4 hgr4 hnx4
  have HNS:Hid (NSl w4 v' (x :: (fin { H with mm:=H.mm } b).2)):=qh (by
   have:=hsl4
   rw [← tt.flat_append] at this
   show tt.Sl _ _ 24 v' (x :: (fin { H with mm:=H.mm } b).2).length (flat nt (x :: (fin { H with mm:=H.mm } b).2))
   rw [show (x :: (fin { H with mm:=H.mm } b).2).length=1 + (fin { H with mm:=H.mm } b).2.length by simp;omega]
   exact this)
  have HA4:=qh (HA9.out.other' hgr4 (fun k e=>HSO.out k e) (fun k e=>by obtain ⟨cur,hc⟩:=HSL.out.type k e;exact ⟨cur,hc⟩))
  have HD4:=qh (HD9.out.fresh hgr4 (fun k e=>HSG.out k e))
  have HV4:Hid (∀ k,v'.ownBlock=some k→w.heap.size ≤ k∧¬ F9.own k):=qh fun k hk=>⟨hnx4.ge HD9.out.size (fun k e=>HSG.out k e) k hk,fun e=>hnx4.elim (fun h1=>HSO.out k (h1 ▸ hk) e) (fun h1=>Nat.lt_irrefl _ (Nat.lt_of_lt_of_le (HA9.out.own_lt e) (h1 k hk)))⟩
  refine hK.out _ _ ⟨(hgr4.block _ (lt_of HX9.out.1) (fun e=>HSN.out BN e.symm (Or.inl rfl))).trans HX9.out.1,(hgr4.block _ (lt_of HX9.out.2) (fun e=>HSN.out _ e.symm (Or.inr rfl))).trans HX9.out.2⟩ (fun hHeld=>?_)
  clear hK K hsl4 hgr4 hnx4
  try simp only [lay]
  refine tl 7 ?_ rfl ?_ ?_ ?_
  (rotate_left;(next=>((intro w0 hSw;go_simp);try (with_reducible rfl)));next=>rfl)
  try simp only [lay]
  refine wpAnyH_done (by kernel_rfl) ?_ _
  clear hHeld
  go_wp2_with fail
  go_ret
  have hHW:=HWY.out.2.1 HYW.out (by first | rfl | trivial)
  rw [hHW,HNB.out]
  try dsimp only
  rw [← HXX.out]
  exact ⟨F9,v',rfl,HA4.out,HNS.out,HD4.out,HV4.out⟩
theorem hear_has_left (A:HomeAt w h c F H) (n:Nt) (hf:fits c n∧n.t=-1) (hw:Word n) (hT:mm.Tab w) (j:Jb) (hj:jbOf H n.b.toNat=some j) (hjd:j.d=false) (hk:n.k=9) (hh:n.h=true) (hy:(noted j n).w ≠ 0):Calls Tryz.prog 44 #[.pointer (some ⟨h,0,none⟩),.agg (na n)] w fun e w'=>∃ F' v,e = .returned v ∧
  HomeAt w' h c F' (heard H n).1∧NSl w' v (heard H n).2∧Did w w' F F'∧∀ k,v.ownBlock=some k→w.heap.size ≤ k∧¬ F'.own k:=by
 obtain ⟨b,hbn⟩:∃ b:Nat,n.b=(b:Int):=⟨n.b.toNat,by have:=(blk_lt hf.1).1;omega⟩
 have hb:b < c.data.toNat:=by have:=(blk_lt hf.1).2;omega
 have HBT:Hid (n.b.toNat=b):=qh (by omega)
 rw [HBT.out] at hj
 have hjo:=A.inv.jobs b j (jbOf_get hj)
 have hnm:=A.inv.noted n hf.1 j (by rw [HBT.out];exact hj) hw
 obtain ⟨wb,hwb⟩:∃ wb,w.alloc (.cells (na n) 45)=wb:=⟨_,rfl⟩
 have hgb:w.grownBy wb none:=by rw [← hwb];exact grown_alloc (grown_refl _ _) _
 have hbx:wb.heap[w.heap.size]?=some (.cells (na n) 45 (0,0)):=by rw [← hwb];exact heap_alloc_new _ _
 have HA:Hid (∀ w',wb.grownBy w' none→HomeAt w' h c F H):=qh fun w' h'=>A.grown (grown_trans hgb h')
 have HR:Hid (∀ w':World,w'.heap[w.heap.size]?=some (.cells (na n) 45 (0,0))→w'.rangeAt w.heap.size 0 (nt n)):=qh fun w' h'=>tt.range_of h'
 have HOL:Hid (∀ i,F.own i→i < w.heap.size):=qh fun i hi=>A.own_lt hi
 have HOH:=qh A.h_own
 have HLH:=qh A.lt
 have HBJ:Hid (b < H.jb.length):=qh (by rw [A.inv.lj];exact hb)
 have HBM:Hid (b < H.mm.length):=qh (by rw [A.inv.lm];have h1:=A.inv.may.2;have h2:=data_le A.inv.may;omega)
 have HIM:Hid (Inv c { H with mm:=if n.h then H.mm.set b n.d else H.mm }):=qh (A.inv.mem n.h b n.d n.hd)
 have HIJ:Hid (Inv c { H with mm:=if n.h then H.mm.set b n.d else H.mm,jb:=H.jb.set b (some (noted j n)) }):=qh (by rw [HBT.out] at hnm;exact hnm)
 have HOO:=qh A.ok
 have HTT:=qh hT
 have HLOW:=qh A.low
 have HLK:Hid (∀ w',wb.grownBy w' none→(Instr.lookup 86 (.map (some F.ub)) (.int .i64 (b:Int)) false).run Tryz.prog w' = .ok (.agg (askA j)) w'):=qh fun w' h'=>by
  have:=(HA.out w' h').look1 b
  unfold askOr at this
  rw [hj] at this
  exact this
 have HJW:=qh hjo.w
 have HJB:Hid (JobOk c b (noted j n)):=qh (HIJ.out.jobs b (noted j n) (by show (H.jb.set b (some (noted j n)))[b]?=_;rw [List.getElem?_set_self HBJ.out]))
 have HNB:=qh hbn
 have HG:=qh hgb
 have HBX:=qh hbx
 have HF0:=qh hf
 have HBL:=qh hb
 have HNO:Hid (noted j n=⟨j.a,wo j.w n.f,j.d,j.r || decide (n.k=10),if n.k=10∧(j.r=false ∨ n.st < j.l) then n.st else j.l⟩):=qh rfl
 have HWO:=qh (wo_lt j.w n.f hjo.w)
 have HJD:Hid (j.d=false):=qh hjd
 obtain ⟨t9,mm9,HT9,hagg9,hsize9,hld9⟩:=nameB
 have HLD:Hid (∀ w':World,_):=qh fun w':World=>hld9 w.heap.size n w'
 have HWY:=qh (heard_ways H n b HBT.out HBJ.out j hj)
 have e10:(n.k == 10)=false:=by rw [hk];rfl
 have HYW:=qh hy
 have HJR:Hid ((noted j n).r=j.r∧(noted j n).l=j.l):=qh (by unfold noted;simp [hk])
 have HM0:Hid ((if n.h=true then H.mm.set b n.d else H.mm)=H.mm.set b n.d):=qh (by rw [hh];rfl)
 rw [HM0.out] at HIM HIJ HWY
 have HNH:=qh hh
 clear A hgb hbx hjo hnm hf hb hbn hT hj hw hld9 hjd hk hh hy
 generalize noted j n=J at *
 have HJA:Hid (J.a=j.a∧J.d=j.d∧J.w=wo j.w n.f):=qh (by rw [HNO.out];exact ⟨rfl,rfl,rfl⟩)
 obtain ⟨ja,m,jd,r,l⟩:=J
 obtain ⟨aa,m0,d0,r0,l0⟩:=j
 have hja:=HJA.out
 dsimp only at hja HWY HJB HIJ HNO  HLK HJW HWO HJD
 obtain ⟨rfl,rfl,hmw⟩:=hja
 obtain ⟨ak,af,a3,a4,a5,a6,a7,a8,a9,a10⟩:=ja
 have HWT:Hid (∀ w,_):=qh fun w=>mm.wout_any m0 n.f w HJW.out
 rw [← hmw] at HWT
 unfold askA at HLK
 dsimp only at HLK  HWY HJB
 clear hmw HNO
 obtain ⟨rfl,rfl⟩:=HJR.out
 have HK:Hid (∀ w',wb.grownBy w' none→w'.cell? ⟨h,3,none⟩=some (.map (some F.ub))∧w'.cell? ⟨w.heap.size,3,none⟩=some (.int .i64 (b:Int))):=qh fun w' h'=>⟨(HA.out w' h').cells.2.2.2.1,by rw [← HNB.out];exact tt.cell_at (HR.out w' ((h'.block _ (lt_of HBX.out) (by simp)).trans HBX.out)) 3 _ rfl⟩
 have HLK2:Hid (∀ w',wb.grownBy w' none→(Instr.lookup 86 (.map (some F.ub)) (.int .i64 (b:Int)) false).run Tryz.prog w' = .ok (.agg #[.int .u8 ak,.int .i64 af,.int .u32 (m0:Int),.bool r,.int .u64 l]) w'):=HLK
 go_enter Tryz.func44,Tryz.ntmps44
 go_wp2_with fail
 refine wp_region_held_drew (S:=fun w'=>wb.grownBy w' none) (by kernel_rfl) (tt.grown_drew (grown_refl _ _)) (fun hHeld=>?_)
 generalize wb.drew=wd at hHeld ⊢
 have HD0:=qh hHeld
 refine tl 0 ?_ rfl ?_ ?_ (tl 1 ?_ rfl ?_ ?_ (tl 2 ?_ rfl ?_ ?_ (tl 3 ?_ rfl ?_ ?_ (tl 4 ?_ rfl ?_ ?_ (tl 5 ?_ rfl ?_ ?_ (tl 6 ?_ rfl ?_ ?_ ?_))))))
 iterate 7 (rotate_left;(next=>(try simp only [lay]);((intro w0 hSw;obtain ⟨hs1,hs2⟩:=HK.out w0 hSw;have hs3:=HLK2.out w0 hSw;go_simp);try (with_reducible rfl)));next=>rfl)
 try simp only [lay]
 refine rd 7 rfl fun K hK=>?_
 go_simp
 refine hK.out _ _ (grown_alloc HD0.out _) (fun hHeld=>?_)
 clear hK K
 try simp only [lay]
 refine rd 8 rfl fun K hK=>?_
 go_simp
 refine hK.out _ _ (grown_alloc HD0.out _) (fun hHeld=>?_)
 clear hK K
 try simp only [lay]
 refine wpAnyH_done (by kernel_rfl) ?_ _
 clear hHeld
 have hl1:w.heap.size < wd.heap.size:=Nat.lt_of_lt_of_le (lt_of HBX.out) HD0.out.size
 have HB5:Hid (wb.heap.size ≤ wd.heap.size):=qh HD0.out.size
 obtain ⟨wP,hwP⟩:∃ wP,wd.alloc (.cells #[.int .u8 ak,.int .i64 af,.int .u32 (m0:Int),.bool r,.int .u64 l] 93)=wP:=⟨_,rfl⟩
 have h5:wP.heap[wd.heap.size]?=some (.cells #[.int .u8 ak,.int .i64 af,.int .u32 (m0:Int),.bool r,.int .u64 l] 93 (0,0)):=by rw [← hwP];exact heap_alloc_new _ _
 have hgP:wb.grownBy wP none:=by rw [← hwP];exact grown_alloc HD0.out _
 rw [hwP]
 obtain ⟨B5,hB⟩:∃ B,wd.heap.size=B:=⟨_,rfl⟩
 rw [hB] at h5 HB5 hl1 ⊢
 have HL1:=qh hl1
 have hnr:=HR.out wP ((hgP.block _ (lt_of HBX.out) (by simp)).trans HBX.out)
 have n0:=tt.cell_at hnr 0 _ rfl
 have n1:=tt.cell_at hnr 1 _ rfl
 have p2:=cr h5 2 rfl
 have f2:wP.frozen? ⟨B5,2,none⟩=false:=by simp [World.frozen?,h5]
 obtain ⟨wQ,hwQ⟩:∃ wQ,wP.setCell ⟨B5,2,none⟩ (.int .u32 (m:Int))=wQ:=⟨_,rfl⟩
 have h6:wQ.heap[B5]?=some (.cells #[.int .u8 ak,.int .i64 af,.int .u32 (m:Int),.bool r,.int .u64 l] 93 (0,0)):=by rw [← hwQ];exact setCell_heap h5 2 _
 have hgQ:wb.grownBy wQ none:=by rw [← hwQ];exact grown_put1 hgP HB5.out
 have hnq:=HR.out wQ ((hgQ.block _ (lt_of HBX.out) (by simp)).trans HBX.out)
 have m0':=tt.cell_at hnq 0 _ rfl
 have m4':=tt.cell_at hnq 4 _ rfl
 have m6':=tt.cell_at hnq 6 _ rfl
 rw [HNH.out] at m6'
 have m1':=tt.cell_at hnq 3 _ rfl
 rw [HNB.out] at m1'
 have s0:=cr h6 0 rfl
 have s1:=cr h6 1 rfl
 have s2:=cr h6 2 rfl
 have s3:=cr h6 3 rfl
 have s4:=cr h6 4 rfl
 have HGQ:=qh hgQ
 have H6:=qh h6
 have HAQ:=qh (HA.out _ hgQ)
 have hq1:=HAQ.out.cells.2.1
 have hq3:=HAQ.out.cells.2.2.2.1
 clear hwP h5 hgP hB hnr hnq h6 hgQ hl1
 have em:((m:Int) != 0)=true:=by have:=HYW.out;simp;omega
 have HCF:Hid (∀ w':World,(w'.heap[h]?=some (.cells #[.int .i64 c.co,.pointer (some ⟨F.mb,0,none⟩),F.ev,.map (some F.ub),.pointer (some ⟨F.pb,0,none⟩)] 88 (0,0))∧w'.heap[B5]?=some (.cells #[.int .u8 ak,.int .i64 af,.int .u32 (m:Int),.bool r,.int .u64 l] 93 (0,0))∧w'.heap[w.heap.size]?=some (.cells (na n) 45 (0,0)))→(w'.cell? ⟨h,1,none⟩=some (.pointer (some ⟨F.mb,0,none⟩))∧w'.cell? ⟨h,3,none⟩=some (.map (some F.ub)))∧(w'.cell? ⟨B5,0,none⟩=some (.int .u8 ak)∧w'.cell? ⟨B5,1,none⟩=some (.int .i64 af)∧w'.cell? ⟨B5,2,none⟩=some (.int .u32 (m:Int))∧w'.cell? ⟨B5,3,none⟩=some (.bool r)∧w'.cell? ⟨B5,4,none⟩=some (.int .u64 l))∧(w'.cell? ⟨w.heap.size,3,none⟩=some (.int .i64 (b:Int))∧(loadCellsFrom ⟨w.heap.size,8,none⟩ 0 mm9 #[]).run Tryz.prog w' = .ok (pp.row n.d) w')):=qh fun w' ⟨e1,e2,e3⟩=>⟨⟨cr e1 1 rfl,cr e1 3 rfl⟩,⟨cr e2 0 rfl,cr e2 1 rfl,cr e2 2 rfl,cr e2 3 rfl,cr e2 4 rfl⟩,⟨by rw [← HNB.out];exact tt.cell_at (HR.out w' e3) 3 _ rfl,HLD.out w' (HR.out w' e3)⟩⟩
 have HKP:Hid (∀ w1 w2:World,Did w1 w2 F F→(w1.heap[h]?=some (.cells #[.int .i64 c.co,.pointer (some ⟨F.mb,0,none⟩),F.ev,.map (some F.ub),.pointer (some ⟨F.pb,0,none⟩)] 88 (0,0))∧w1.heap[B5]?=some (.cells #[.int .u8 ak,.int .i64 af,.int .u32 (m:Int),.bool r,.int .u64 l] 93 (0,0))∧w1.heap[w.heap.size]?=some (.cells (na n) 45 (0,0)))→(w2.heap[h]?=some (.cells #[.int .i64 c.co,.pointer (some ⟨F.mb,0,none⟩),F.ev,.map (some F.ub),.pointer (some ⟨F.pb,0,none⟩)] 88 (0,0))∧w2.heap[B5]?=some (.cells #[.int .u8 ak,.int .i64 af,.int .u32 (m:Int),.bool r,.int .u64 l] 93 (0,0))∧w2.heap[w.heap.size]?=some (.cells (na n) 45 (0,0)))):=qh fun w1 w2 d ⟨e1,e2,e3⟩=>⟨d.heap e1 HOH.out,d.heap e2 (fun e=>by have:=HOL.out _ e;have:=HL1.out;omega),d.heap e3 (fun e=>by have:=HOL.out _ e;omega)⟩
 go_wp2_with (first
  | (go_at_call 68;((with_reducible refine (HWT.out _).mono ?_);rintro e w5 ⟨rfl,rfl⟩)))
 rw [HT9.out]
 refine wp_region_held_drew (S:=fun w'=>w'.heap[h]?=some (.cells #[.int .i64 c.co,.pointer (some ⟨F.mb,0,none⟩),F.ev,.map (some F.ub),.pointer (some ⟨F.pb,0,none⟩)] 88 (0,0))∧w'.heap[B5]?=some (.cells #[.int .u8 ak,.int .i64 af,.int .u32 (m:Int),.bool r,.int .u64 l] 93 (0,0))∧w'.heap[w.heap.size]?=some (.cells (na n) 45 (0,0))) (by kernel_rfl) ⟨HAQ.out.blk,H6.out,(HGQ.out.block _ (lt_of HBX.out) (by simp)).trans HBX.out⟩ (fun hHeld=>?_)
 have hgx:=tt.grown_drew HGQ.out
 generalize wQ.drew=wd2 at hgx hHeld ⊢
 refine tl 0 ?_ rfl ?_ ?_ (tl 1 ?_ rfl ?_ ?_ (tl 2 ?_ rfl ?_ ?_ (tl 3 ?_ rfl ?_ ?_ (tl 4 ?_ rfl ?_ ?_ (tl 5 ?_ rfl ?_ ?_ (tl 6 ?_ rfl ?_ ?_ (tl 7 ?_ rfl ?_ ?_ ?_)))))))
 iterate 8 (rotate_left;(next=>(try simp only [lay]);((intro w0 hSw;obtain ⟨⟨hs0,hs1⟩,⟨hs2,hs3,hs4,hs5,hs6⟩,⟨hs7,hs8⟩⟩:=HCF.out w0 hSw;go_simp);try (with_reducible rfl)));next=>rfl)
 try simp only [lay]
 refine rd 8 rfl fun K hK=>?_
 go_simp
 (with_reducible refine (pp.set_block_any (HA.out _ hgx).mem (b:Int) n.d n.hd).mono ?_);rintro e wM ⟨rfl,hM,hgM⟩;have hDm:Did wd2 wM F F:=(Did.of_own hgM fun i e=> .inl e);have hMM:=setB_in HBM.out n.d;rw [hMM] at hM;have HAM:=qh ((HA.out _ hgx).setMem hM hgM HIM.out);have HDM:=qh ((Did.of_grown F hgx).trans hDm);have HFM:=qh (HKP.out _ _ hDm hHeld);clear hM hgM hDm hMM
 go_wp2_with fail
 refine hK.out _ _ HFM.out (fun hHeld=>?_)
 clear hK K
 try simp only [lay]
 refine wpAnyH_done (by kernel_rfl) ?_ _
 clear hHeld hgx
 obtain ⟨⟨g1,g2⟩,⟨g3,g4,g5,g6,g7⟩,⟨g8,g9⟩⟩:=HCF.out wM HFM.out
 clear g9
 go_wp2_with fail
 refine wp_region_held_drew (S:=fun w'=>w'.heap[h]?=some (.cells #[.int .i64 c.co,.pointer (some ⟨F.mb,0,none⟩),F.ev,.map (some F.ub),.pointer (some ⟨F.pb,0,none⟩)] 88 (0,0))∧w'.heap[B5]?=some (.cells #[.int .u8 ak,.int .i64 af,.int .u32 (m:Int),.bool r,.int .u64 l] 93 (0,0))∧w'.heap[w.heap.size]?=some (.cells (na n) 45 (0,0))) (by kernel_rfl) ⟨HFM.out.1,HFM.out.2.1,HFM.out.2.2⟩ (fun hHeld=>?_)
 have hAd:=HAM.out.grown (tt.grown_drew (grown_refl wM none))
 have hDd:=HDM.out.trans (Did.of_grown F (tt.grown_drew (grown_refl wM none)))
 generalize wM.drew=wd2 at hAd hDd hHeld ⊢
 refine tl 0 ?_ rfl ?_ ?_ (tl 1 ?_ rfl ?_ ?_ (tl 2 ?_ rfl ?_ ?_ (tl 3 ?_ rfl ?_ ?_ (tl 4 ?_ rfl ?_ ?_ (tl 5 ?_ rfl ?_ ?_ (tl 6 ?_ rfl ?_ ?_ ?_))))))
 iterate 7 (rotate_left;(next=>(try simp only [lay]);((intro w0 hSw;obtain ⟨⟨hs0,hs1⟩,⟨hs2,hs3,hs4,hs5,hs6⟩,⟨hs7,hs8⟩⟩:=HCF.out w0 hSw;go_simp);try (with_reducible rfl)));next=>rfl)
 try simp only [lay]
 obtain ⟨w2,hmu,hM2,hg2⟩:=tt.run_update_map Tryz.underlying86 Tryz.underlying3 hAd.und (b:Int) (.agg #[.int .u8 ak,.int .i64 af,.int .u32 (m:Int),.bool r,.int .u64 l])
 have hd1:Did wd2 w2 F F:=Did.of_own hg2 fun i e=> .inr (.inr (.inl (Option.some.inj e).symm))
 have HF2:=qh (HKP.out _ _ hd1 hHeld)
 have HA2:=qh (hAd.setUnd (jb:=H.jb.set b (some ⟨⟨ak,af,a3,a4,a5,a6,a7,a8,a9,a10⟩,m,jd,r,l⟩)) hM2 hg2 (fun k=>und_put HBJ.out ⟨⟨ak,af,a3,a4,a5,a6,a7,a8,a9,a10⟩,m,jd,r,l⟩ k) HIJ.out (ok_set HOO.out b ⟨⟨ak,af,a3,a4,a5,a6,a7,a8,a9,a10⟩,m,jd,r,l⟩ (by
  show jd=decide (m=0)
  rw [decide_eq_false HYW.out];exact HJD.out)))
 have HD2:=qh (hDd.trans hd1)
 clear hAd hDd hM2 hg2 hd1
 refine rd 7 rfl fun K hK=>?_
 go_simp
 refine hK.out _ _ HF2.out (fun hHeld=>?_)
 clear hK K
 try simp only [lay]
 refine wpAnyH_done (by kernel_rfl) ?_ _
 clear hHeld hmu
 go_wp2_with fail
 go_ret
 have hHW:=HWY.out.1 HYW.out
 rw [hHW]
 exact ⟨F,_,rfl,HA2.out,tt.Sl.nil _ _ _,(Did.of_grown F HG.out).trans HD2.out,fun k hk=>by simp [Value.ownBlock] at hk⟩
theorem hear_has_ans (A:HomeAt w h c F H) (n:Nt) (hf:fits c n∧n.t=-1) (hw:Word n) (hT:mm.Tab w) (j:Jb) (hj:jbOf H n.b.toNat=some j) (hjd:j.d=false) (hk:n.k=9) (hh:n.h=true) (hy:(noted j n).w=0) (hyr:(noted j n).r=false):Calls Tryz.prog 44 #[.pointer (some ⟨h,0,none⟩),.agg (na n)] w fun e w'=>∃ F' v,e = .returned v ∧
  HomeAt w' h c F' (heard H n).1∧NSl w' v (heard H n).2∧Did w w' F F'∧∀ k,v.ownBlock=some k→w.heap.size ≤ k∧¬ F'.own k:=by
 obtain ⟨b,hbn⟩:∃ b:Nat,n.b=(b:Int):=⟨n.b.toNat,by have:=(blk_lt hf.1).1;omega⟩
 have hb:b < c.data.toNat:=by have:=(blk_lt hf.1).2;omega
 have HBT:Hid (n.b.toNat=b):=qh (by omega)
 rw [HBT.out] at hj
 have hjo:=A.inv.jobs b j (jbOf_get hj)
 have hnm:=A.inv.noted n hf.1 j (by rw [HBT.out];exact hj) hw
 obtain ⟨wb,hwb⟩:∃ wb,w.alloc (.cells (na n) 45)=wb:=⟨_,rfl⟩
 have hgb:w.grownBy wb none:=by rw [← hwb];exact grown_alloc (grown_refl _ _) _
 have hbx:wb.heap[w.heap.size]?=some (.cells (na n) 45 (0,0)):=by rw [← hwb];exact heap_alloc_new _ _
 have HA:Hid (∀ w',wb.grownBy w' none→HomeAt w' h c F H):=qh fun w' h'=>A.grown (grown_trans hgb h')
 have HR:Hid (∀ w':World,w'.heap[w.heap.size]?=some (.cells (na n) 45 (0,0))→w'.rangeAt w.heap.size 0 (nt n)):=qh fun w' h'=>tt.range_of h'
 have HOL:Hid (∀ i,F.own i→i < w.heap.size):=qh fun i hi=>A.own_lt hi
 have HOH:=qh A.h_own
 have HLH:=qh A.lt
 have HBJ:Hid (b < H.jb.length):=qh (by rw [A.inv.lj];exact hb)
 have HBM:Hid (b < H.mm.length):=qh (by rw [A.inv.lm];have h1:=A.inv.may.2;have h2:=data_le A.inv.may;omega)
 have HIM:Hid (Inv c { H with mm:=if n.h then H.mm.set b n.d else H.mm }):=qh (A.inv.mem n.h b n.d n.hd)
 have HIJ:Hid (Inv c { H with mm:=if n.h then H.mm.set b n.d else H.mm,jb:=H.jb.set b (some (noted j n)) }):=qh (by rw [HBT.out] at hnm;exact hnm)
 have HOO:=qh A.ok
 have HTT:=qh hT
 have HLOW:=qh A.low
 have HLK:Hid (∀ w',wb.grownBy w' none→(Instr.lookup 86 (.map (some F.ub)) (.int .i64 (b:Int)) false).run Tryz.prog w' = .ok (.agg (askA j)) w'):=qh fun w' h'=>by
  have:=(HA.out w' h').look1 b
  unfold askOr at this
  rw [hj] at this
  exact this
 have HJW:=qh hjo.w
 have HJB:Hid (JobOk c b (noted j n)):=qh (HIJ.out.jobs b (noted j n) (by show (H.jb.set b (some (noted j n)))[b]?=_;rw [List.getElem?_set_self HBJ.out]))
 have HNB:=qh hbn
 have HG:=qh hgb
 have HBX:=qh hbx
 have HF0:=qh hf
 have HBL:=qh hb
 have HNO:Hid (noted j n=⟨j.a,wo j.w n.f,j.d,j.r || decide (n.k=10),if n.k=10∧(j.r=false ∨ n.st < j.l) then n.st else j.l⟩):=qh rfl
 have HWO:=qh (wo_lt j.w n.f hjo.w)
 have HJD:Hid (j.d=false):=qh hjd
 obtain ⟨t9,mm9,HT9,hagg9,hsize9,hld9⟩:=nameB
 have HLD:Hid (∀ w':World,_):=qh fun w':World=>hld9 w.heap.size n w'
 have HWY:=qh (heard_ways H n b HBT.out HBJ.out j hj)
 have e10:(n.k == 10)=false:=by rw [hk];rfl
 have HYW:=qh hy
 have HYR:=qh hyr
 have HJR:Hid ((noted j n).r=j.r∧(noted j n).l=j.l):=qh (by unfold noted;simp [hk])
 have HM0:Hid ((if n.h=true then H.mm.set b n.d else H.mm)=H.mm.set b n.d):=qh (by rw [hh];rfl)
 rw [HM0.out] at HIM HIJ HWY
 have HNH:=qh hh
 clear A hgb hbx hjo hnm hf hb hbn hT hj hw hld9 hjd hk hh hy hyr
 generalize noted j n=J at *
 have HJA:Hid (J.a=j.a∧J.d=j.d∧J.w=wo j.w n.f):=qh (by rw [HNO.out];exact ⟨rfl,rfl,rfl⟩)
 obtain ⟨ja,m,jd,r,l⟩:=J
 obtain ⟨aa,m0,d0,r0,l0⟩:=j
 have hja:=HJA.out
 dsimp only at hja HWY HJB HIJ HNO  HLK HJW HWO HJD
 obtain ⟨rfl,rfl,hmw⟩:=hja
 obtain ⟨ak,af,a3,a4,a5,a6,a7,a8,a9,a10⟩:=ja
 have HWT:Hid (∀ w,_):=qh fun w=>mm.wout_any m0 n.f w HJW.out
 rw [← hmw] at HWT
 unfold askA at HLK
 dsimp only at HLK  HWY HJB
 clear hmw HNO
 obtain ⟨rfl,rfl⟩:=HJR.out
 obtain rfl:r=false:=HYR.out
 have HK:Hid (∀ w',wb.grownBy w' none→w'.cell? ⟨h,3,none⟩=some (.map (some F.ub))∧w'.cell? ⟨w.heap.size,3,none⟩=some (.int .i64 (b:Int))):=qh fun w' h'=>⟨(HA.out w' h').cells.2.2.2.1,by rw [← HNB.out];exact tt.cell_at (HR.out w' ((h'.block _ (lt_of HBX.out) (by simp)).trans HBX.out)) 3 _ rfl⟩
 have HLK2:Hid (∀ w',wb.grownBy w' none→(Instr.lookup 86 (.map (some F.ub)) (.int .i64 (b:Int)) false).run Tryz.prog w' = .ok (.agg #[.int .u8 ak,.int .i64 af,.int .u32 (m0:Int),.bool false,.int .u64 l]) w'):=HLK
 go_enter Tryz.func44,Tryz.ntmps44
 go_wp2_with fail
 refine wp_region_held_drew (S:=fun w'=>wb.grownBy w' none) (by kernel_rfl) (tt.grown_drew (grown_refl _ _)) (fun hHeld=>?_)
 generalize wb.drew=wd at hHeld ⊢
 have HD0:=qh hHeld
 refine tl 0 ?_ rfl ?_ ?_ (tl 1 ?_ rfl ?_ ?_ (tl 2 ?_ rfl ?_ ?_ (tl 3 ?_ rfl ?_ ?_ (tl 4 ?_ rfl ?_ ?_ (tl 5 ?_ rfl ?_ ?_ (tl 6 ?_ rfl ?_ ?_ ?_))))))
 iterate 7 (rotate_left;(next=>(try simp only [lay]);((intro w0 hSw;obtain ⟨hs1,hs2⟩:=HK.out w0 hSw;have hs3:=HLK2.out w0 hSw;go_simp);try (with_reducible rfl)));next=>rfl)
 try simp only [lay]
 refine rd 7 rfl fun K hK=>?_
 go_simp
 refine hK.out _ _ (grown_alloc HD0.out _) (fun hHeld=>?_)
 clear hK K
 try simp only [lay]
 refine rd 8 rfl fun K hK=>?_
 go_simp
 refine hK.out _ _ (grown_alloc HD0.out _) (fun hHeld=>?_)
 clear hK K
 try simp only [lay]
 refine wpAnyH_done (by kernel_rfl) ?_ _
 clear hHeld
 have hl1:w.heap.size < wd.heap.size:=Nat.lt_of_lt_of_le (lt_of HBX.out) HD0.out.size
 have HB5:Hid (wb.heap.size ≤ wd.heap.size):=qh HD0.out.size
 obtain ⟨wP,hwP⟩:∃ wP,wd.alloc (.cells #[.int .u8 ak,.int .i64 af,.int .u32 (m0:Int),.bool false,.int .u64 l] 93)=wP:=⟨_,rfl⟩
 have h5:wP.heap[wd.heap.size]?=some (.cells #[.int .u8 ak,.int .i64 af,.int .u32 (m0:Int),.bool false,.int .u64 l] 93 (0,0)):=by rw [← hwP];exact heap_alloc_new _ _
 have hgP:wb.grownBy wP none:=by rw [← hwP];exact grown_alloc HD0.out _
 rw [hwP]
 obtain ⟨B5,hB⟩:∃ B,wd.heap.size=B:=⟨_,rfl⟩
 rw [hB] at h5 HB5 hl1 ⊢
 have HL1:=qh hl1
 have hnr:=HR.out wP ((hgP.block _ (lt_of HBX.out) (by simp)).trans HBX.out)
 have n0:=tt.cell_at hnr 0 _ rfl
 have n1:=tt.cell_at hnr 1 _ rfl
 have p2:=cr h5 2 rfl
 have f2:wP.frozen? ⟨B5,2,none⟩=false:=by simp [World.frozen?,h5]
 obtain ⟨wQ,hwQ⟩:∃ wQ,wP.setCell ⟨B5,2,none⟩ (.int .u32 (m:Int))=wQ:=⟨_,rfl⟩
 have h6:wQ.heap[B5]?=some (.cells #[.int .u8 ak,.int .i64 af,.int .u32 (m:Int),.bool false,.int .u64 l] 93 (0,0)):=by rw [← hwQ];exact setCell_heap h5 2 _
 have hgQ:wb.grownBy wQ none:=by rw [← hwQ];exact grown_put1 hgP HB5.out
 have hnq:=HR.out wQ ((hgQ.block _ (lt_of HBX.out) (by simp)).trans HBX.out)
 have m0':=tt.cell_at hnq 0 _ rfl
 have m4':=tt.cell_at hnq 4 _ rfl
 have m6':=tt.cell_at hnq 6 _ rfl
 rw [HNH.out] at m6'
 have m1':=tt.cell_at hnq 3 _ rfl
 rw [HNB.out] at m1'
 have s0:=cr h6 0 rfl
 have s1:=cr h6 1 rfl
 have s2:=cr h6 2 rfl
 have s3:=cr h6 3 rfl
 have s4:=cr h6 4 rfl
 have HGQ:=qh hgQ
 have H6:=qh h6
 have HAQ:=qh (HA.out _ hgQ)
 have hq1:=HAQ.out.cells.2.1
 have hq3:=HAQ.out.cells.2.2.2.1
 clear hwP h5 hgP hB hnr hnq h6 hgQ hl1
 have em:((m:Int) != 0)=false:=by have hz:m=0:=HYW.out;rw [hz];rfl
 have HCF:Hid (∀ w':World,(w'.heap[h]?=some (.cells #[.int .i64 c.co,.pointer (some ⟨F.mb,0,none⟩),F.ev,.map (some F.ub),.pointer (some ⟨F.pb,0,none⟩)] 88 (0,0))∧w'.heap[B5]?=some (.cells #[.int .u8 ak,.int .i64 af,.int .u32 (m:Int),.bool false,.int .u64 l] 93 (0,0))∧w'.heap[w.heap.size]?=some (.cells (na n) 45 (0,0)))→(w'.cell? ⟨h,1,none⟩=some (.pointer (some ⟨F.mb,0,none⟩))∧w'.cell? ⟨h,3,none⟩=some (.map (some F.ub)))∧(w'.cell? ⟨B5,0,none⟩=some (.int .u8 ak)∧w'.cell? ⟨B5,1,none⟩=some (.int .i64 af)∧w'.cell? ⟨B5,2,none⟩=some (.int .u32 (m:Int))∧w'.cell? ⟨B5,3,none⟩=some (.bool false)∧w'.cell? ⟨B5,4,none⟩=some (.int .u64 l))∧(w'.cell? ⟨w.heap.size,3,none⟩=some (.int .i64 (b:Int))∧(loadCellsFrom ⟨w.heap.size,8,none⟩ 0 mm9 #[]).run Tryz.prog w' = .ok (pp.row n.d) w')):=qh fun w' ⟨e1,e2,e3⟩=>⟨⟨cr e1 1 rfl,cr e1 3 rfl⟩,⟨cr e2 0 rfl,cr e2 1 rfl,cr e2 2 rfl,cr e2 3 rfl,cr e2 4 rfl⟩,⟨by rw [← HNB.out];exact tt.cell_at (HR.out w' e3) 3 _ rfl,HLD.out w' (HR.out w' e3)⟩⟩
 have HKP:Hid (∀ w1 w2:World,Did w1 w2 F F→(w1.heap[h]?=some (.cells #[.int .i64 c.co,.pointer (some ⟨F.mb,0,none⟩),F.ev,.map (some F.ub),.pointer (some ⟨F.pb,0,none⟩)] 88 (0,0))∧w1.heap[B5]?=some (.cells #[.int .u8 ak,.int .i64 af,.int .u32 (m:Int),.bool false,.int .u64 l] 93 (0,0))∧w1.heap[w.heap.size]?=some (.cells (na n) 45 (0,0)))→(w2.heap[h]?=some (.cells #[.int .i64 c.co,.pointer (some ⟨F.mb,0,none⟩),F.ev,.map (some F.ub),.pointer (some ⟨F.pb,0,none⟩)] 88 (0,0))∧w2.heap[B5]?=some (.cells #[.int .u8 ak,.int .i64 af,.int .u32 (m:Int),.bool false,.int .u64 l] 93 (0,0))∧w2.heap[w.heap.size]?=some (.cells (na n) 45 (0,0)))):=qh fun w1 w2 d ⟨e1,e2,e3⟩=>⟨d.heap e1 HOH.out,d.heap e2 (fun e=>by have:=HOL.out _ e;have:=HL1.out;omega),d.heap e3 (fun e=>by have:=HOL.out _ e;omega)⟩
 have HAA:Hid (∀ w',HomeAt w' h c F { H with mm:=H.mm.set b n.d }→_):=qh fun w' hA=>answer_any hA b HBL.out ⟨⟨ak,af,a3,a4,a5,a6,a7,a8,a9,a10⟩,m,jd,false,l⟩ HJB.out HYW.out
 unfold askA at HAA
 dsimp only at HAA
 go_wp2_with (first
  | (go_at_call 68;((with_reducible refine (HWT.out _).mono ?_);rintro e w5 ⟨rfl,rfl⟩)))
 rw [HT9.out]
 refine wp_region_held_drew (S:=fun w'=>w'.heap[h]?=some (.cells #[.int .i64 c.co,.pointer (some ⟨F.mb,0,none⟩),F.ev,.map (some F.ub),.pointer (some ⟨F.pb,0,none⟩)] 88 (0,0))∧w'.heap[B5]?=some (.cells #[.int .u8 ak,.int .i64 af,.int .u32 (m:Int),.bool false,.int .u64 l] 93 (0,0))∧w'.heap[w.heap.size]?=some (.cells (na n) 45 (0,0))) (by kernel_rfl) ⟨HAQ.out.blk,H6.out,(HGQ.out.block _ (lt_of HBX.out) (by simp)).trans HBX.out⟩ (fun hHeld=>?_)
 have hgx:=tt.grown_drew HGQ.out
 generalize wQ.drew=wd2 at hgx hHeld ⊢
 refine tl 0 ?_ rfl ?_ ?_ (tl 1 ?_ rfl ?_ ?_ (tl 2 ?_ rfl ?_ ?_ (tl 3 ?_ rfl ?_ ?_ (tl 4 ?_ rfl ?_ ?_ (tl 5 ?_ rfl ?_ ?_ (tl 6 ?_ rfl ?_ ?_ (tl 7 ?_ rfl ?_ ?_ ?_)))))))
 iterate 8 (rotate_left;(next=>(try simp only [lay]);((intro w0 hSw;obtain ⟨⟨hs0,hs1⟩,⟨hs2,hs3,hs4,hs5,hs6⟩,⟨hs7,hs8⟩⟩:=HCF.out w0 hSw;go_simp);try (with_reducible rfl)));next=>rfl)
 try simp only [lay]
 refine rd 8 rfl fun K hK=>?_
 go_simp
 (with_reducible refine (pp.set_block_any (HA.out _ hgx).mem (b:Int) n.d n.hd).mono ?_);rintro e wM ⟨rfl,hM,hgM⟩;have hDm:Did wd2 wM F F:=(Did.of_own hgM fun i e=> .inl e);have hMM:=setB_in HBM.out n.d;rw [hMM] at hM;have HAM:=qh ((HA.out _ hgx).setMem hM hgM HIM.out);have HDM:=qh ((Did.of_grown F hgx).trans hDm);have HFM:=qh (HKP.out _ _ hDm hHeld);clear hM hgM hDm hMM
 go_wp2_with fail
 refine hK.out _ _ HFM.out (fun hHeld=>?_)
 clear hK K
 try simp only [lay]
 refine wpAnyH_done (by kernel_rfl) ?_ _
 clear hHeld hgx
 obtain ⟨⟨g1,g2⟩,⟨g3,g4,g5,g6,g7⟩,⟨g8,g9⟩⟩:=HCF.out wM HFM.out
 clear g9
 go_wp2_with (first
  | (go_at_call 71;((with_reducible refine (HAA.out wM HAM.out).mono ?_);rintro e w1 ⟨v,rfl,hA1,hS1,hD1,hf1⟩;have HA1:=qh hA1;have HS1:=qh hS1;have HD1:=qh hD1;have HF1:=qh hf1;clear hA1 hS1 hD1 hf1)))
 go_ret
 have hHW:=HWY.out.2.2 HYW.out (by first | rfl | trivial)
 try dsimp only at hHW
 rw [hHW]
 have HDW:Did w wM F F:=(Did.of_grown F HG.out).trans HDM.out
 exact ⟨F,v,rfl,HA1.out,HS1.out,HDW.trans HD1.out,fun k hk=>⟨Nat.le_trans HDW.size (HF1.out k hk),fun e=>Nat.lt_irrefl _ (Nat.lt_of_lt_of_le (HOL.out k e) (Nat.le_trans HDW.size (HF1.out k hk)))⟩⟩
theorem hear_has_refd (A:HomeAt w h c F H) (n:Nt) (hf:fits c n∧n.t=-1) (hw:Word n) (hT:mm.Tab w) (j:Jb) (hj:jbOf H n.b.toNat=some j) (hjd:j.d=false) (hk:n.k=9) (hh:n.h=true) (hy:(noted j n).w=0) (hyr:(noted j n).r=true):Calls Tryz.prog 44 #[.pointer (some ⟨h,0,none⟩),.agg (na n)] w fun e w'=>∃ F' v,e = .returned v ∧
  HomeAt w' h c F' (heard H n).1∧NSl w' v (heard H n).2∧Did w w' F F'∧∀ k,v.ownBlock=some k→w.heap.size ≤ k∧¬ F'.own k:=by
 obtain ⟨b,hbn⟩:∃ b:Nat,n.b=(b:Int):=⟨n.b.toNat,by have:=(blk_lt hf.1).1;omega⟩
 have hb:b < c.data.toNat:=by have:=(blk_lt hf.1).2;omega
 have HBT:Hid (n.b.toNat=b):=qh (by omega)
 rw [HBT.out] at hj
 have hjo:=A.inv.jobs b j (jbOf_get hj)
 have hnm:=A.inv.noted n hf.1 j (by rw [HBT.out];exact hj) hw
 obtain ⟨wb,hwb⟩:∃ wb,w.alloc (.cells (na n) 45)=wb:=⟨_,rfl⟩
 have hgb:w.grownBy wb none:=by rw [← hwb];exact grown_alloc (grown_refl _ _) _
 have hbx:wb.heap[w.heap.size]?=some (.cells (na n) 45 (0,0)):=by rw [← hwb];exact heap_alloc_new _ _
 have HA:Hid (∀ w',wb.grownBy w' none→HomeAt w' h c F H):=qh fun w' h'=>A.grown (grown_trans hgb h')
 have HR:Hid (∀ w':World,w'.heap[w.heap.size]?=some (.cells (na n) 45 (0,0))→w'.rangeAt w.heap.size 0 (nt n)):=qh fun w' h'=>tt.range_of h'
 have HOL:Hid (∀ i,F.own i→i < w.heap.size):=qh fun i hi=>A.own_lt hi
 have HOH:=qh A.h_own
 have HLH:=qh A.lt
 have HBJ:Hid (b < H.jb.length):=qh (by rw [A.inv.lj];exact hb)
 have HBM:Hid (b < H.mm.length):=qh (by rw [A.inv.lm];have h1:=A.inv.may.2;have h2:=data_le A.inv.may;omega)
 have HIM:Hid (Inv c { H with mm:=if n.h then H.mm.set b n.d else H.mm }):=qh (A.inv.mem n.h b n.d n.hd)
 have HIJ:Hid (Inv c { H with mm:=if n.h then H.mm.set b n.d else H.mm,jb:=H.jb.set b (some (noted j n)) }):=qh (by rw [HBT.out] at hnm;exact hnm)
 have HOO:=qh A.ok
 have HTT:=qh hT
 have HLOW:=qh A.low
 have HLK:Hid (∀ w',wb.grownBy w' none→(Instr.lookup 86 (.map (some F.ub)) (.int .i64 (b:Int)) false).run Tryz.prog w' = .ok (.agg (askA j)) w'):=qh fun w' h'=>by
  have:=(HA.out w' h').look1 b
  unfold askOr at this
  rw [hj] at this
  exact this
 have HJW:=qh hjo.w
 have HJB:Hid (JobOk c b (noted j n)):=qh (HIJ.out.jobs b (noted j n) (by show (H.jb.set b (some (noted j n)))[b]?=_;rw [List.getElem?_set_self HBJ.out]))
 have HNB:=qh hbn
 have HG:=qh hgb
 have HBX:=qh hbx
 have HF0:=qh hf
 have HBL:=qh hb
 have HNO:Hid (noted j n=⟨j.a,wo j.w n.f,j.d,j.r || decide (n.k=10),if n.k=10∧(j.r=false ∨ n.st < j.l) then n.st else j.l⟩):=qh rfl
 have HWO:=qh (wo_lt j.w n.f hjo.w)
 have HJD:Hid (j.d=false):=qh hjd
 obtain ⟨t9,mm9,HT9,hagg9,hsize9,hld9⟩:=nameB
 have HLD:Hid (∀ w':World,_):=qh fun w':World=>hld9 w.heap.size n w'
 have HWY:=qh (heard_ways H n b HBT.out HBJ.out j hj)
 have e10:(n.k == 10)=false:=by rw [hk];rfl
 have HYW:=qh hy
 have HYR:=qh hyr
 have HJR:Hid ((noted j n).r=j.r∧(noted j n).l=j.l):=qh (by unfold noted;simp [hk])
 have HM0:Hid ((if n.h=true then H.mm.set b n.d else H.mm)=H.mm.set b n.d):=qh (by rw [hh];rfl)
 rw [HM0.out] at HIM HIJ HWY
 have HNH:=qh hh
 clear A hgb hbx hjo hnm hf hb hbn hT hj hw hld9 hjd hk hh hy hyr
 generalize noted j n=J at *
 have HJA:Hid (J.a=j.a∧J.d=j.d∧J.w=wo j.w n.f):=qh (by rw [HNO.out];exact ⟨rfl,rfl,rfl⟩)
 obtain ⟨ja,m,jd,r,l⟩:=J
 obtain ⟨aa,m0,d0,r0,l0⟩:=j
 have hja:=HJA.out
 dsimp only at hja HWY HJB HIJ HNO  HLK HJW HWO HJD
 obtain ⟨rfl,rfl,hmw⟩:=hja
 obtain ⟨ak,af,a3,a4,a5,a6,a7,a8,a9,a10⟩:=ja
 have HWT:Hid (∀ w,_):=qh fun w=>mm.wout_any m0 n.f w HJW.out
 rw [← hmw] at HWT
 unfold askA at HLK
 dsimp only at HLK  HWY HJB
 clear hmw HNO
 obtain ⟨rfl,rfl⟩:=HJR.out
 obtain rfl:r=true:=HYR.out
 have HK:Hid (∀ w',wb.grownBy w' none→w'.cell? ⟨h,3,none⟩=some (.map (some F.ub))∧w'.cell? ⟨w.heap.size,3,none⟩=some (.int .i64 (b:Int))):=qh fun w' h'=>⟨(HA.out w' h').cells.2.2.2.1,by rw [← HNB.out];exact tt.cell_at (HR.out w' ((h'.block _ (lt_of HBX.out) (by simp)).trans HBX.out)) 3 _ rfl⟩
 have HLK2:Hid (∀ w',wb.grownBy w' none→(Instr.lookup 86 (.map (some F.ub)) (.int .i64 (b:Int)) false).run Tryz.prog w' = .ok (.agg #[.int .u8 ak,.int .i64 af,.int .u32 (m0:Int),.bool true,.int .u64 l]) w'):=HLK
 go_enter Tryz.func44,Tryz.ntmps44
 go_wp2_with fail
 refine wp_region_held_drew (S:=fun w'=>wb.grownBy w' none) (by kernel_rfl) (tt.grown_drew (grown_refl _ _)) (fun hHeld=>?_)
 generalize wb.drew=wd at hHeld ⊢
 have HD0:=qh hHeld
 refine tl 0 ?_ rfl ?_ ?_ (tl 1 ?_ rfl ?_ ?_ (tl 2 ?_ rfl ?_ ?_ (tl 3 ?_ rfl ?_ ?_ (tl 4 ?_ rfl ?_ ?_ (tl 5 ?_ rfl ?_ ?_ (tl 6 ?_ rfl ?_ ?_ ?_))))))
 iterate 7 (rotate_left;(next=>(try simp only [lay]);((intro w0 hSw;obtain ⟨hs1,hs2⟩:=HK.out w0 hSw;have hs3:=HLK2.out w0 hSw;go_simp);try (with_reducible rfl)));next=>rfl)
 try simp only [lay]
 refine rd 7 rfl fun K hK=>?_
 go_simp
 refine hK.out _ _ (grown_alloc HD0.out _) (fun hHeld=>?_)
 clear hK K
 try simp only [lay]
 refine rd 8 rfl fun K hK=>?_
 go_simp
 refine hK.out _ _ (grown_alloc HD0.out _) (fun hHeld=>?_)
 clear hK K
 try simp only [lay]
 refine wpAnyH_done (by kernel_rfl) ?_ _
 clear hHeld
 have hl1:w.heap.size < wd.heap.size:=Nat.lt_of_lt_of_le (lt_of HBX.out) HD0.out.size
 have HB5:Hid (wb.heap.size ≤ wd.heap.size):=qh HD0.out.size
 obtain ⟨wP,hwP⟩:∃ wP,wd.alloc (.cells #[.int .u8 ak,.int .i64 af,.int .u32 (m0:Int),.bool true,.int .u64 l] 93)=wP:=⟨_,rfl⟩
 have h5:wP.heap[wd.heap.size]?=some (.cells #[.int .u8 ak,.int .i64 af,.int .u32 (m0:Int),.bool true,.int .u64 l] 93 (0,0)):=by rw [← hwP];exact heap_alloc_new _ _
 have hgP:wb.grownBy wP none:=by rw [← hwP];exact grown_alloc HD0.out _
 rw [hwP]
 obtain ⟨B5,hB⟩:∃ B,wd.heap.size=B:=⟨_,rfl⟩
 rw [hB] at h5 HB5 hl1 ⊢
 have HL1:=qh hl1
 have hnr:=HR.out wP ((hgP.block _ (lt_of HBX.out) (by simp)).trans HBX.out)
 have n0:=tt.cell_at hnr 0 _ rfl
 have n1:=tt.cell_at hnr 1 _ rfl
 have p2:=cr h5 2 rfl
 have f2:wP.frozen? ⟨B5,2,none⟩=false:=by simp [World.frozen?,h5]
 obtain ⟨wQ,hwQ⟩:∃ wQ,wP.setCell ⟨B5,2,none⟩ (.int .u32 (m:Int))=wQ:=⟨_,rfl⟩
 have h6:wQ.heap[B5]?=some (.cells #[.int .u8 ak,.int .i64 af,.int .u32 (m:Int),.bool true,.int .u64 l] 93 (0,0)):=by rw [← hwQ];exact setCell_heap h5 2 _
 have hgQ:wb.grownBy wQ none:=by rw [← hwQ];exact grown_put1 hgP HB5.out
 have hnq:=HR.out wQ ((hgQ.block _ (lt_of HBX.out) (by simp)).trans HBX.out)
 have m0':=tt.cell_at hnq 0 _ rfl
 have m4':=tt.cell_at hnq 4 _ rfl
 have m6':=tt.cell_at hnq 6 _ rfl
 rw [HNH.out] at m6'
 have m1':=tt.cell_at hnq 3 _ rfl
 rw [HNB.out] at m1'
 have s0:=cr h6 0 rfl
 have s1:=cr h6 1 rfl
 have s2:=cr h6 2 rfl
 have s3:=cr h6 3 rfl
 have s4:=cr h6 4 rfl
 have HGQ:=qh hgQ
 have H6:=qh h6
 have HAQ:=qh (HA.out _ hgQ)
 have hq1:=HAQ.out.cells.2.1
 have hq3:=HAQ.out.cells.2.2.2.1
 clear hwP h5 hgP hB hnr hnq h6 hgQ hl1
 have em:((m:Int) != 0)=false:=by have hz:m=0:=HYW.out;rw [hz];rfl
 have HCF:Hid (∀ w':World,(w'.heap[h]?=some (.cells #[.int .i64 c.co,.pointer (some ⟨F.mb,0,none⟩),F.ev,.map (some F.ub),.pointer (some ⟨F.pb,0,none⟩)] 88 (0,0))∧w'.heap[B5]?=some (.cells #[.int .u8 ak,.int .i64 af,.int .u32 (m:Int),.bool true,.int .u64 l] 93 (0,0))∧w'.heap[w.heap.size]?=some (.cells (na n) 45 (0,0)))→(w'.cell? ⟨h,1,none⟩=some (.pointer (some ⟨F.mb,0,none⟩))∧w'.cell? ⟨h,3,none⟩=some (.map (some F.ub)))∧(w'.cell? ⟨B5,0,none⟩=some (.int .u8 ak)∧w'.cell? ⟨B5,1,none⟩=some (.int .i64 af)∧w'.cell? ⟨B5,2,none⟩=some (.int .u32 (m:Int))∧w'.cell? ⟨B5,3,none⟩=some (.bool true)∧w'.cell? ⟨B5,4,none⟩=some (.int .u64 l))∧(w'.cell? ⟨w.heap.size,3,none⟩=some (.int .i64 (b:Int))∧(loadCellsFrom ⟨w.heap.size,8,none⟩ 0 mm9 #[]).run Tryz.prog w' = .ok (pp.row n.d) w')):=qh fun w' ⟨e1,e2,e3⟩=>⟨⟨cr e1 1 rfl,cr e1 3 rfl⟩,⟨cr e2 0 rfl,cr e2 1 rfl,cr e2 2 rfl,cr e2 3 rfl,cr e2 4 rfl⟩,⟨by rw [← HNB.out];exact tt.cell_at (HR.out w' e3) 3 _ rfl,HLD.out w' (HR.out w' e3)⟩⟩
 have HKP:Hid (∀ w1 w2:World,Did w1 w2 F F→(w1.heap[h]?=some (.cells #[.int .i64 c.co,.pointer (some ⟨F.mb,0,none⟩),F.ev,.map (some F.ub),.pointer (some ⟨F.pb,0,none⟩)] 88 (0,0))∧w1.heap[B5]?=some (.cells #[.int .u8 ak,.int .i64 af,.int .u32 (m:Int),.bool true,.int .u64 l] 93 (0,0))∧w1.heap[w.heap.size]?=some (.cells (na n) 45 (0,0)))→(w2.heap[h]?=some (.cells #[.int .i64 c.co,.pointer (some ⟨F.mb,0,none⟩),F.ev,.map (some F.ub),.pointer (some ⟨F.pb,0,none⟩)] 88 (0,0))∧w2.heap[B5]?=some (.cells #[.int .u8 ak,.int .i64 af,.int .u32 (m:Int),.bool true,.int .u64 l] 93 (0,0))∧w2.heap[w.heap.size]?=some (.cells (na n) 45 (0,0)))):=qh fun w1 w2 d ⟨e1,e2,e3⟩=>⟨d.heap e1 HOH.out,d.heap e2 (fun e=>by have:=HOL.out _ e;have:=HL1.out;omega),d.heap e3 (fun e=>by have:=HOL.out _ e;omega)⟩
 obtain ⟨x,hx⟩:∃ x,x=bare 7 (-1) af (b:Int) l 0 false false:=⟨_,rfl⟩
 have hA:_=na (bare 7 (-1) af (b:Int) l 0 false false):=(tt.bare_na 7 (-1) af (b:Int) l 0 false false).symm
 rw [← hx] at hA
 have hZ:=tt.bare_na 0 0 0 0 0 0 false false
 have HXX:=qh hx
 have HZS:=qh (hZ ▸ tt.na_size (bare 0 0 0 0 0 0 false false))
 clear hx hZ
 go_wp2_with (first
  | (go_at_call 68;((with_reducible refine (HWT.out _).mono ?_);rintro e w5 ⟨rfl,rfl⟩)))
 rw [HT9.out]
 refine wp_region_held_drew (S:=fun w'=>w'.heap[h]?=some (.cells #[.int .i64 c.co,.pointer (some ⟨F.mb,0,none⟩),F.ev,.map (some F.ub),.pointer (some ⟨F.pb,0,none⟩)] 88 (0,0))∧w'.heap[B5]?=some (.cells #[.int .u8 ak,.int .i64 af,.int .u32 (m:Int),.bool true,.int .u64 l] 93 (0,0))∧w'.heap[w.heap.size]?=some (.cells (na n) 45 (0,0))) (by kernel_rfl) ⟨HAQ.out.blk,H6.out,(HGQ.out.block _ (lt_of HBX.out) (by simp)).trans HBX.out⟩ (fun hHeld=>?_)
 have hgx:=tt.grown_drew HGQ.out
 generalize wQ.drew=wd2 at hgx hHeld ⊢
 refine tl 0 ?_ rfl ?_ ?_ (tl 1 ?_ rfl ?_ ?_ (tl 2 ?_ rfl ?_ ?_ (tl 3 ?_ rfl ?_ ?_ (tl 4 ?_ rfl ?_ ?_ (tl 5 ?_ rfl ?_ ?_ (tl 6 ?_ rfl ?_ ?_ (tl 7 ?_ rfl ?_ ?_ ?_)))))))
 iterate 8 (rotate_left;(next=>(try simp only [lay]);((intro w0 hSw;obtain ⟨⟨hs0,hs1⟩,⟨hs2,hs3,hs4,hs5,hs6⟩,⟨hs7,hs8⟩⟩:=HCF.out w0 hSw;go_simp);try (with_reducible rfl)));next=>rfl)
 try simp only [lay]
 refine rd 8 rfl fun K hK=>?_
 go_simp
 (with_reducible refine (pp.set_block_any (HA.out _ hgx).mem (b:Int) n.d n.hd).mono ?_);rintro e wM ⟨rfl,hM,hgM⟩;have hDm:Did wd2 wM F F:=(Did.of_own hgM fun i e=> .inl e);have hMM:=setB_in HBM.out n.d;rw [hMM] at hM;have HAM:=qh ((HA.out _ hgx).setMem hM hgM HIM.out);have HDM:=qh ((Did.of_grown F hgx).trans hDm);have HFM:=qh (HKP.out _ _ hDm hHeld);clear hM hgM hDm hMM
 go_wp2_with fail
 refine hK.out _ _ HFM.out (fun hHeld=>?_)
 clear hK K
 try simp only [lay]
 refine wpAnyH_done (by kernel_rfl) ?_ _
 clear hHeld hgx
 obtain ⟨⟨g1,g2⟩,⟨g3,g4,g5,g6,g7⟩,⟨g8,g9⟩⟩:=HCF.out wM HFM.out
 clear g9
 go_wp2_with (first
  | ((with_reducible refine tt.store_new x _ _ _ ?_ ?_ HZS.out ?_);(rfl);(rfl)))
 have HDW:Hid (Did w wM F F):=qh ((Did.of_grown F HG.out).trans HDM.out)
 have HM5:Hid (w.heap.size < wM.heap.size):=qh (lt_of HFM.out.2.2)
 have hga:wM.grownBy (wM.alloc (.cells (na x) 45)) none:=grown_alloc (grown_refl _ _) _
 have HFN:Hid ((wM.alloc (.cells (na x) 45)).heap[h]?=some (.cells #[.int .i64 c.co,.pointer (some ⟨F.mb,0,none⟩),F.ev,.map (some F.ub),.pointer (some ⟨F.pb,0,none⟩)] 88 (0,0))∧(wM.alloc (.cells (na x) 45)).heap[B5]?=some (.cells #[.int .u8 ak,.int .i64 af,.int .u32 (m:Int),.bool true,.int .u64 l] 93 (0,0))∧(wM.alloc (.cells (na x) 45)).heap[w.heap.size]?=some (.cells (na n) 45 (0,0))):=qh (HKP.out _ _ (Did.of_grown F hga) HFM.out)
 have HAN:=qh (HAM.out.grown hga)
 have HDN:=qh (HDW.out.trans (Did.of_grown F hga))
 have HBX2:Hid ((wM.alloc (.cells (na x) 45)).heap[wM.heap.size]?=some (.cells (na x) 45 (0,0))):=qh (heap_alloc_new _ _)
 obtain ⟨BN,hBN⟩:∃ B,wM.heap.size=B:=⟨_,rfl⟩
 have HBE:=qh hBN
 obtain ⟨wN,hwN⟩:∃ wN,wM.alloc (.cells (na x) 45)=wN:=⟨_,rfl⟩
 rw [hwN,hBN] at HBX2
 rw [hwN] at HFN HAN HDN
 rw [hwN,hBN]
 rw [hBN] at HM5
 clear hga hwN hBN g1 g2 g3 g4 g5 g6 g7 g8 hA
 obtain ⟨t',mm,HTL,hagg,hsize,hld⟩:=tt.named
 have hsz:=tt.na_size x
 have hfd:=tt.build_na x
 obtain ⟨i0,hi,hz0,hz1,hz2⟩:=info_parts tt.infoN
 rw [HTL.out]
 refine wp_region_held_drew (S:=fun w'=>w'.heap[BN]?=some (.cells (na x) 45 (0,0))∧w'.heap[w.heap.size]?=some (.cells (na n) 45 (0,0))) (by kernel_rfl) ⟨HBX2.out,HFN.out.2.2⟩ (fun hHeld=>?_)
 have hgd:=tt.grown_drew (grown_refl wN none)
 have HAD:=qh (HAN.out.grown hgd)
 have HDD:=qh (HDN.out.trans (Did.of_grown F hgd))
 generalize wN.drew=wd2 at hHeld HAD HDD ⊢
 clear hgd
 have HH:=qh hHeld
 have HBL2:Hid (w.heap.size ≤ BN):=qh (Nat.le_of_lt HM5.out)
 have HEN:Hid (∀ W,HomeAt W h c F { H with mm:=H.mm.set b n.d }→Go.Proofs.YtenhdijbcdkfbaaGreatDoor.mm.Tab W→_):=qh fun W hA hT=>end_any hA b HBL.out hT
 have HTD:Hid (Go.Proofs.YtenhdijbcdkfbaaGreatDoor.mm.Tab wd2):=qh ((HDD.out.tabs HLOW.out).1 HTT.out)
 refine tl 0 ?_ rfl ?_ ?_ (tl 2 ?_ rfl ?_ ?_ (tl 3 ?_ rfl ?_ ?_ (tl 4 ?_ rfl ?_ ?_ ?_)))
 iterate 4 (rotate_left;(next=>(try simp only [lay]);((intro w0 hSw;obtain ⟨hq1,hq2⟩:=hSw;have hs1:=hld BN x w0 (tt.range_of hq1);have hs2:w0.cell? ⟨w.heap.size,3,none⟩=some (.int .i64 (b:Int)):=(by rw [← HNB.out];exact tt.cell_at (HR.out w0 hq2) 3 _ rfl);go_simp);try (with_reducible rfl)));next=>rfl)
 try simp only [lay]
 refine wpAnyH_ready (rs:=[1,5]) (by kernel_rfl) (by simp) ?_
 refine ac rfl (fun K hK=>?_) (ac rfl (fun K hK=>?_) AllReadyH.nil)
 ·skip
  go_simp
  have hgB:wd2.grownBy (wd2.alloc (.cells (na x) 45)) none:=grown_alloc (grown_refl _ _) _
  have HAB:=qh (HAD.out.grown hgB)
  have HDB:=qh (HDD.out.trans (Did.of_grown F hgB))
  have HSB:Hid (NSl (wd2.alloc (.cells (na x) 45)) (.slice (some ⟨wd2.heap.size,0,none⟩) 1 1) [x]):=qh (nsl_one (heap_alloc_new _ _))
  have HXB:Hid ((wd2.alloc (.cells (na x) 45)).heap[BN]?=some (.cells (na x) 45 (0,0))∧(wd2.alloc (.cells (na x) 45)).heap[w.heap.size]?=some (.cells (na n) 45 (0,0))):=qh ⟨(hgB.block _ (lt_of HH.out.1) (by simp)).trans HH.out.1,(hgB.block _ (lt_of HH.out.2) (by simp)).trans HH.out.2⟩
  have HTB:Hid (Go.Proofs.YtenhdijbcdkfbaaGreatDoor.mm.Tab (wd2.alloc (.cells (na x) 45))):=qh (mtab_grown HTD.out hgB)
  refine hK.out _ _ HXB.out (fun hHeld=>?_)
  clear hK K hgB
  try simp only [lay]
  refine rd 5 rfl fun K hK=>?_
  go_simp
  (with_reducible refine (HEN.out _ HAB.out HTB.out).mono ?_);rintro e w9 ⟨F9,v,rfl,hA9,hS9,hD9,hf9⟩
  have HA9:=qh hA9
  have HVS:=qh hS9
  have HVL:Hid ((fin { H with mm:=H.mm.set b n.d } b).2.length ≤ 3000000):=qh (fin_len HAB.out)
  have hno:∀ k,w.heap.size ≤ k→¬ F.own k:=fun k hk e=>by have:=HOL.out k e;omega
  have HD9:=qh (HDB.out.trans hD9)
  have HSL:Hid (NSl w9 (.slice (some ⟨wd2.heap.size,0,none⟩) 1 1) [x]):=qh (hD9.sl HSB.out (fun k e=>hno k (by simp [Value.ownBlock] at e;have:=HDD.out.size;omega)))
  have HSO:Hid (∀ k,(Value.slice (some ⟨wd2.heap.size,0,none⟩) 1 1).ownBlock=some k→¬ F9.own k):=qh fun k e=>hD9.own (HSB.out.lt k e) (hno k (by simp [Value.ownBlock] at e;have:=HDD.out.size;omega))
  have HSG:Hid (∀ k,(Value.slice (some ⟨wd2.heap.size,0,none⟩) 1 1).ownBlock=some k→w.heap.size ≤ k):=qh fun k e=>by simp [Value.ownBlock] at e;have:=HDD.out.size;omega
  have HSN:Hid (∀ k,(Value.slice (some ⟨wd2.heap.size,0,none⟩) 1 1).ownBlock=some k→¬ (k=BN ∨ k=w.heap.size)):=qh fun k e=>by simp [Value.ownBlock] at e;have:=lt_of HH.out.1;have:=lt_of HH.out.2;omega
  have HX9:Hid (w9.heap[BN]?=some (.cells (na x) 45 (0,0))∧w9.heap[w.heap.size]?=some (.cells (na n) 45 (0,0))):=qh ⟨hD9.heap HXB.out.1 (hno _ HBL2.out),hD9.heap HXB.out.2 (hno _ (Nat.le_refl _))⟩
  clear hA9 hS9 hD9 hf9 hno
  go_wp2_with fail
  refine hK.out _ _ HX9.out (fun hHeld=>?_)
  clear hK K
  try simp only [lay]
  refine rd 6 rfl fun K hK=>?_
  refine tt.step_append_sl rfl (.tmp 60) (.tmp 64) 24 24 rfl 45 24 i0 (.agg (na zn)) 112 Tryz.underlying24 hi hz0 hz1 hz2 tt.zn_cells _ 1 (flat nt [x]) rfl HSL.out (fin { H with mm:=H.mm.set b n.d } b).2.length (flat nt (fin { H with mm:=H.mm.set b n.d } b).2) (by simpa [Act.eval] using HVS.out.src Tryz.underlying24 (tt.nflat_one _)) (by have:=HVL.out;unfold maxLen;omega) (by have:=HVL.out;omega) ?_
  intro v' w4 hsl4 hgr4 hnx4
  have HNS:Hid (NSl w4 v' (x :: (fin { H with mm:=H.mm.set b n.d } b).2)):=qh (by
   have:=hsl4
   rw [← tt.flat_append] at this
   show tt.Sl _ _ 24 v' (x :: (fin { H with mm:=H.mm.set b n.d } b).2).length (flat nt (x :: (fin { H with mm:=H.mm.set b n.d } b).2))
   rw [show (x :: (fin { H with mm:=H.mm.set b n.d } b).2).length=1 + (fin { H with mm:=H.mm.set b n.d } b).2.length by simp;omega]
   exact this)
  have HA4:=qh (HA9.out.other' hgr4 (fun k e=>HSO.out k e) (fun k e=>by obtain ⟨cur,hc⟩:=HSL.out.type k e;exact ⟨cur,hc⟩))
  have HD4:=qh (HD9.out.fresh hgr4 (fun k e=>HSG.out k e))
  have HV4:Hid (∀ k,v'.ownBlock=some k→w.heap.size ≤ k∧¬ F9.own k):=qh fun k hk=>⟨hnx4.ge HD9.out.size (fun k e=>HSG.out k e) k hk,fun e=>hnx4.elim (fun h1=>HSO.out k (h1 ▸ hk) e) (fun h1=>Nat.lt_irrefl _ (Nat.lt_of_lt_of_le (HA9.out.own_lt e) (h1 k hk)))⟩
  refine hK.out _ _ ⟨(hgr4.block _ (lt_of HX9.out.1) (fun e=>HSN.out BN e.symm (Or.inl rfl))).trans HX9.out.1,(hgr4.block _ (lt_of HX9.out.2) (fun e=>HSN.out _ e.symm (Or.inr rfl))).trans HX9.out.2⟩ (fun hHeld=>?_)
  clear hK K hsl4 hgr4 hnx4
  try simp only [lay]
  refine tl 7 ?_ rfl ?_ ?_ ?_
  (rotate_left;(next=>((intro w0 hSw;go_simp);try (with_reducible rfl)));next=>rfl)
  try simp only [lay]
  refine wpAnyH_done (by kernel_rfl) ?_ _
  clear hHeld
  go_wp2_with fail
  go_ret
  have hHW:=HWY.out.2.1 HYW.out (by first | rfl | trivial)
  rw [hHW,HNB.out]
  try dsimp only
  rw [← HXX.out]
  exact ⟨F9,v',rfl,HA4.out,HNS.out,HD4.out,HV4.out⟩
 ·skip
  go_simp
  (with_reducible refine (HEN.out _ HAD.out HTD.out).mono ?_);rintro e w8 ⟨F9,v,rfl,hA9,hS9,hD9,hf9⟩
  have hgB:w8.grownBy (w8.alloc (.cells (na x) 45)) none:=grown_alloc (grown_refl _ _) _
  have HA9:=qh (hA9.grown hgB)
  have HVS:=qh (hS9.grown hgB)
  have HVL:Hid ((fin { H with mm:=H.mm.set b n.d } b).2.length ≤ 3000000):=qh (fin_len HAD.out)
  have hno:∀ k,w.heap.size ≤ k→¬ F.own k:=fun k hk e=>by have:=HOL.out k e;omega
  have HX8:Hid (w8.heap[BN]?=some (.cells (na x) 45 (0,0))∧w8.heap[w.heap.size]?=some (.cells (na n) 45 (0,0))):=qh ⟨hD9.heap HH.out.1 (hno _ HBL2.out),hD9.heap HH.out.2 (hno _ (Nat.le_refl _))⟩
  have HD8:=qh (HDD.out.trans hD9)
  have HD9:=qh (HD8.out.trans (Did.of_grown F9 hgB))
  have HSL:Hid (NSl (w8.alloc (.cells (na x) 45)) (.slice (some ⟨w8.heap.size,0,none⟩) 1 1) [x]):=qh (nsl_one (heap_alloc_new _ _))
  have HSO:Hid (∀ k,(Value.slice (some ⟨w8.heap.size,0,none⟩) 1 1).ownBlock=some k→¬ F9.own k):=qh fun k e=>by
   simp [Value.ownBlock] at e
   exact fun ho=>by have:=hA9.own_lt ho;omega
  have HSG:Hid (∀ k,(Value.slice (some ⟨w8.heap.size,0,none⟩) 1 1).ownBlock=some k→w.heap.size ≤ k):=qh fun k e=>by simp [Value.ownBlock] at e;have:=HD8.out.size;omega
  have HSN:Hid (∀ k,(Value.slice (some ⟨w8.heap.size,0,none⟩) 1 1).ownBlock=some k→¬ (k=BN ∨ k=w.heap.size)):=qh fun k e=>by simp [Value.ownBlock] at e;have:=lt_of HX8.out.1;have:=lt_of HX8.out.2;omega
  have HX9:Hid ((w8.alloc (.cells (na x) 45)).heap[BN]?=some (.cells (na x) 45 (0,0))∧(w8.alloc (.cells (na x) 45)).heap[w.heap.size]?=some (.cells (na n) 45 (0,0))):=qh ⟨(hgB.block _ (lt_of HX8.out.1) (by simp)).trans HX8.out.1,(hgB.block _ (lt_of HX8.out.2) (by simp)).trans HX8.out.2⟩
  clear hA9 hS9 hD9 hf9 hno hgB
  go_wp2_with fail
  refine hK.out _ _ HX8.out (fun hHeld=>?_)
  clear hK K
  try simp only [lay]
  refine rd 1 rfl fun K hK=>?_
  go_simp
  refine hK.out _ _ HX9.out (fun hHeld=>?_)
  clear hK K
  try simp only [lay]
  refine rd 6 rfl fun K hK=>?_
  refine tt.step_append_sl rfl (.tmp 60) (.tmp 64) 24 24 rfl 45 24 i0 (.agg (na zn)) 112 Tryz.underlying24 hi hz0 hz1 hz2 tt.zn_cells _ 1 (flat nt [x]) rfl HSL.out (fin { H with mm:=H.mm.set b n.d } b).2.length (flat nt (fin { H with mm:=H.mm.set b n.d } b).2) (by simpa [Act.eval] using HVS.out.src Tryz.underlying24 (tt.nflat_one _)) (by have:=HVL.out;unfold maxLen;omega) (by have:=HVL.out;omega) ?_
  intro v' w4 hsl4 hgr4 hnx4
  have HNS:Hid (NSl w4 v' (x :: (fin { H with mm:=H.mm.set b n.d } b).2)):=qh (by
   have:=hsl4
   rw [← tt.flat_append] at this
   show tt.Sl _ _ 24 v' (x :: (fin { H with mm:=H.mm.set b n.d } b).2).length (flat nt (x :: (fin { H with mm:=H.mm.set b n.d } b).2))
   rw [show (x :: (fin { H with mm:=H.mm.set b n.d } b).2).length=1 + (fin { H with mm:=H.mm.set b n.d } b).2.length by simp;omega]
   exact this)
  have HA4:=qh (HA9.out.other' hgr4 (fun k e=>HSO.out k e) (fun k e=>by obtain ⟨cur,hc⟩:=HSL.out.type k e;exact ⟨cur,hc⟩))
  have HD4:=qh (HD9.out.fresh hgr4 (fun k e=>HSG.out k e))
  have HV4:Hid (∀ k,v'.ownBlock=some k→w.heap.size ≤ k∧¬ F9.own k):=qh fun k hk=>⟨hnx4.ge HD9.out.size (fun k e=>HSG.out k e) k hk,fun e=>hnx4.elim (fun h1=>HSO.out k (h1 ▸ hk) e) (fun h1=>Nat.lt_irrefl _ (Nat.lt_of_lt_of_le (HA9.out.own_lt e) (h1 k hk)))⟩
  refine hK.out _ _ ⟨(hgr4.block _ (lt_of HX9.out.1) (fun e=>HSN.out BN e.symm (Or.inl rfl))).trans HX9.out.1,(hgr4.block _ (lt_of HX9.out.2) (fun e=>HSN.out _ e.symm (Or.inr rfl))).trans HX9.out.2⟩ (fun hHeld=>?_)
  clear hK K hsl4 hgr4 hnx4
  try simp only [lay]
  refine tl 7 ?_ rfl ?_ ?_ ?_
  (rotate_left;(next=>((intro w0 hSw;go_simp);try (with_reducible rfl)));next=>rfl)
  try simp only [lay]
  refine wpAnyH_done (by kernel_rfl) ?_ _
  clear hHeld
  go_wp2_with fail
  go_ret
  have hHW:=HWY.out.2.1 HYW.out (by first | rfl | trivial)
  rw [hHW,HNB.out]
  try dsimp only
  rw [← HXX.out]
  exact ⟨F9,v',rfl,HA4.out,HNS.out,HD4.out,HV4.out⟩
theorem hear_ref_left (A:HomeAt w h c F H) (n:Nt) (hf:fits c n∧n.t=-1) (hw:Word n) (hT:mm.Tab w) (j:Jb) (hj:jbOf H n.b.toNat=some j) (hjd:j.d=false) (hk:n.k=10) (hh:n.h=false) (hy:(noted j n).w ≠ 0):Calls Tryz.prog 44 #[.pointer (some ⟨h,0,none⟩),.agg (na n)] w fun e w'=>∃ F' v,e = .returned v ∧
  HomeAt w' h c F' (heard H n).1∧NSl w' v (heard H n).2∧Did w w' F F'∧∀ k,v.ownBlock=some k→w.heap.size ≤ k∧¬ F'.own k:=by
 obtain ⟨b,hbn⟩:∃ b:Nat,n.b=(b:Int):=⟨n.b.toNat,by have:=(blk_lt hf.1).1;omega⟩
 have hb:b < c.data.toNat:=by have:=(blk_lt hf.1).2;omega
 have HBT:Hid (n.b.toNat=b):=qh (by omega)
 rw [HBT.out] at hj
 have hjo:=A.inv.jobs b j (jbOf_get hj)
 have hnm:=A.inv.noted n hf.1 j (by rw [HBT.out];exact hj) hw
 obtain ⟨wb,hwb⟩:∃ wb,w.alloc (.cells (na n) 45)=wb:=⟨_,rfl⟩
 have hgb:w.grownBy wb none:=by rw [← hwb];exact grown_alloc (grown_refl _ _) _
 have hbx:wb.heap[w.heap.size]?=some (.cells (na n) 45 (0,0)):=by rw [← hwb];exact heap_alloc_new _ _
 have HA:Hid (∀ w',wb.grownBy w' none→HomeAt w' h c F H):=qh fun w' h'=>A.grown (grown_trans hgb h')
 have HR:Hid (∀ w':World,w'.heap[w.heap.size]?=some (.cells (na n) 45 (0,0))→w'.rangeAt w.heap.size 0 (nt n)):=qh fun w' h'=>tt.range_of h'
 have HOL:Hid (∀ i,F.own i→i < w.heap.size):=qh fun i hi=>A.own_lt hi
 have HOH:=qh A.h_own
 have HLH:=qh A.lt
 have HBJ:Hid (b < H.jb.length):=qh (by rw [A.inv.lj];exact hb)
 have HBM:Hid (b < H.mm.length):=qh (by rw [A.inv.lm];have h1:=A.inv.may.2;have h2:=data_le A.inv.may;omega)
 have HIM:Hid (Inv c { H with mm:=if n.h then H.mm.set b n.d else H.mm }):=qh (A.inv.mem n.h b n.d n.hd)
 have HIJ:Hid (Inv c { H with mm:=if n.h then H.mm.set b n.d else H.mm,jb:=H.jb.set b (some (noted j n)) }):=qh (by rw [HBT.out] at hnm;exact hnm)
 have HOO:=qh A.ok
 have HTT:=qh hT
 have HLOW:=qh A.low
 have HLK:Hid (∀ w',wb.grownBy w' none→(Instr.lookup 86 (.map (some F.ub)) (.int .i64 (b:Int)) false).run Tryz.prog w' = .ok (.agg (askA j)) w'):=qh fun w' h'=>by
  have:=(HA.out w' h').look1 b
  unfold askOr at this
  rw [hj] at this
  exact this
 have HJW:=qh hjo.w
 have HJB:Hid (JobOk c b (noted j n)):=qh (HIJ.out.jobs b (noted j n) (by show (H.jb.set b (some (noted j n)))[b]?=_;rw [List.getElem?_set_self HBJ.out]))
 have HNB:=qh hbn
 have HG:=qh hgb
 have HBX:=qh hbx
 have HF0:=qh hf
 have HBL:=qh hb
 have HNO:Hid (noted j n=⟨j.a,wo j.w n.f,j.d,j.r || decide (n.k=10),if n.k=10∧(j.r=false ∨ n.st < j.l) then n.st else j.l⟩):=qh rfl
 have HWO:=qh (wo_lt j.w n.f hjo.w)
 have HJD:Hid (j.d=false):=qh hjd
 obtain ⟨t9,mm9,HT9,hagg9,hsize9,hld9⟩:=nameB
 have HLD:Hid (∀ w':World,_):=qh fun w':World=>hld9 w.heap.size n w'
 have HWY:=qh (heard_ways H n b HBT.out HBJ.out j hj)
 have e10:(n.k == 10)=true:=by rw [hk];rfl
 have HYW:=qh hy
 have HRF:Hid (∀ w:World,Calls Tryz.prog 69 #[.agg #[.int .u8 j.a.k,.int .i64 j.a.f,.int .u32 ((noted j n).w:Int),.bool j.r,.int .u64 j.l],.int .u64 n.st] w fun e w'=>e = .returned (.agg (askA (noted j n)))∧w.grownBy w' none):=qh fun w=>by
  have:=refused_any ⟨j.a,wo j.w n.f,j.d,j.r,j.l⟩ n.st w
  have e:refd ⟨j.a,wo j.w n.f,j.d,j.r,j.l⟩ n.st=noted j n:=by
   unfold refd noted
   dsimp only
   by_cases hc:j.r=false ∨ n.st < j.l
   ·rw [if_pos hc,if_pos ⟨hk,hc⟩,decide_eq_true hk,Bool.or_true]
   ·rw [if_neg hc,if_neg (fun e=>hc e.2),decide_eq_true hk,Bool.or_true]
    have:j.r=true:=by cases h:j.r with
     | true=>rfl
     | false=>exact absurd (.inl h) hc
    rw [this]
  rw [e] at this
  exact this
 have HM0:Hid ((if n.h=true then H.mm.set b n.d else H.mm)=H.mm):=qh (by rw [hh];rfl)
 rw [HM0.out] at HIM HIJ HWY
 have HNH:=qh hh
 clear A hgb hbx hjo hnm hf hb hbn hT hj hw hld9 hjd hk hh hy
 generalize noted j n=J at *
 have HJA:Hid (J.a=j.a∧J.d=j.d∧J.w=wo j.w n.f):=qh (by rw [HNO.out];exact ⟨rfl,rfl,rfl⟩)
 obtain ⟨ja,m,jd,r,l⟩:=J
 obtain ⟨aa,m0,d0,r0,l0⟩:=j
 have hja:=HJA.out
 dsimp only at hja HWY HJB HIJ HNO HRF HLK HJW HWO HJD
 obtain ⟨rfl,rfl,hmw⟩:=hja
 obtain ⟨ak,af,a3,a4,a5,a6,a7,a8,a9,a10⟩:=ja
 have HWT:Hid (∀ w,_):=qh fun w=>mm.wout_any m0 n.f w HJW.out
 rw [← hmw] at HWT
 unfold askA at HLK
 dsimp only at HLK HWY HJB
 clear hmw HNO
 unfold askA at HRF
 dsimp only at HRF
 have HK:Hid (∀ w',wb.grownBy w' none→w'.cell? ⟨h,3,none⟩=some (.map (some F.ub))∧w'.cell? ⟨w.heap.size,3,none⟩=some (.int .i64 (b:Int))):=qh fun w' h'=>⟨(HA.out w' h').cells.2.2.2.1,by rw [← HNB.out];exact tt.cell_at (HR.out w' ((h'.block _ (lt_of HBX.out) (by simp)).trans HBX.out)) 3 _ rfl⟩
 have HLK2:Hid (∀ w',wb.grownBy w' none→(Instr.lookup 86 (.map (some F.ub)) (.int .i64 (b:Int)) false).run Tryz.prog w' = .ok (.agg #[.int .u8 ak,.int .i64 af,.int .u32 (m0:Int),.bool r0,.int .u64 l0]) w'):=HLK
 go_enter Tryz.func44,Tryz.ntmps44
 go_wp2_with fail
 refine wp_region_held_drew (S:=fun w'=>wb.grownBy w' none) (by kernel_rfl) (tt.grown_drew (grown_refl _ _)) (fun hHeld=>?_)
 generalize wb.drew=wd at hHeld ⊢
 have HD0:=qh hHeld
 refine tl 0 ?_ rfl ?_ ?_ (tl 1 ?_ rfl ?_ ?_ (tl 2 ?_ rfl ?_ ?_ (tl 3 ?_ rfl ?_ ?_ (tl 4 ?_ rfl ?_ ?_ (tl 5 ?_ rfl ?_ ?_ (tl 6 ?_ rfl ?_ ?_ ?_))))))
 iterate 7 (rotate_left;(next=>(try simp only [lay]);((intro w0 hSw;obtain ⟨hs1,hs2⟩:=HK.out w0 hSw;have hs3:=HLK2.out w0 hSw;go_simp);try (with_reducible rfl)));next=>rfl)
 try simp only [lay]
 refine rd 7 rfl fun K hK=>?_
 go_simp
 refine hK.out _ _ (grown_alloc HD0.out _) (fun hHeld=>?_)
 clear hK K
 try simp only [lay]
 refine rd 8 rfl fun K hK=>?_
 go_simp
 refine hK.out _ _ (grown_alloc HD0.out _) (fun hHeld=>?_)
 clear hK K
 try simp only [lay]
 refine wpAnyH_done (by kernel_rfl) ?_ _
 clear hHeld
 have hl1:w.heap.size < wd.heap.size:=Nat.lt_of_lt_of_le (lt_of HBX.out) HD0.out.size
 have HB5:Hid (wb.heap.size ≤ wd.heap.size):=qh HD0.out.size
 obtain ⟨wP,hwP⟩:∃ wP,wd.alloc (.cells #[.int .u8 ak,.int .i64 af,.int .u32 (m0:Int),.bool r0,.int .u64 l0] 93)=wP:=⟨_,rfl⟩
 have h5:wP.heap[wd.heap.size]?=some (.cells #[.int .u8 ak,.int .i64 af,.int .u32 (m0:Int),.bool r0,.int .u64 l0] 93 (0,0)):=by rw [← hwP];exact heap_alloc_new _ _
 have hgP:wb.grownBy wP none:=by rw [← hwP];exact grown_alloc HD0.out _
 rw [hwP]
 obtain ⟨B5,hB⟩:∃ B,wd.heap.size=B:=⟨_,rfl⟩
 rw [hB] at h5 HB5 hl1 ⊢
 have HL1:=qh hl1
 have hnr:=HR.out wP ((hgP.block _ (lt_of HBX.out) (by simp)).trans HBX.out)
 have n0:=tt.cell_at hnr 0 _ rfl
 have n1:=tt.cell_at hnr 1 _ rfl
 have p2:=cr h5 2 rfl
 have f2:wP.frozen? ⟨B5,2,none⟩=false:=by simp [World.frozen?,h5]
 obtain ⟨wQ,hwQ⟩:∃ wQ,wP.setCell ⟨B5,2,none⟩ (.int .u32 (m:Int))=wQ:=⟨_,rfl⟩
 have h6:wQ.heap[B5]?=some (.cells #[.int .u8 ak,.int .i64 af,.int .u32 (m:Int),.bool r0,.int .u64 l0] 93 (0,0)):=by rw [← hwQ];exact setCell_heap h5 2 _
 have hgQ:wb.grownBy wQ none:=by rw [← hwQ];exact grown_put1 hgP HB5.out
 have hnq:=HR.out wQ ((hgQ.block _ (lt_of HBX.out) (by simp)).trans HBX.out)
 have m0':=tt.cell_at hnq 0 _ rfl
 have m4':=tt.cell_at hnq 4 _ rfl
 have m6':=tt.cell_at hnq 6 _ rfl
 rw [HNH.out] at m6'
 have m1':=tt.cell_at hnq 3 _ rfl
 rw [HNB.out] at m1'
 have s0:=cr h6 0 rfl
 have s1:=cr h6 1 rfl
 have s2:=cr h6 2 rfl
 have s3:=cr h6 3 rfl
 have s4:=cr h6 4 rfl
 have HGQ:=qh hgQ
 have H6:=qh h6
 have HAQ:=qh (HA.out _ hgQ)
 have hq1:=HAQ.out.cells.2.1
 have hq3:=HAQ.out.cells.2.2.2.1
 clear hwP h5 hgP hB hnr hnq h6 hgQ hl1
 have em:((m:Int) != 0)=true:=by have:=HYW.out;simp;omega
 have HCF:Hid (∀ w':World,(w'.heap[h]?=some (.cells #[.int .i64 c.co,.pointer (some ⟨F.mb,0,none⟩),F.ev,.map (some F.ub),.pointer (some ⟨F.pb,0,none⟩)] 88 (0,0))∧w'.heap[B5]?=some (.cells #[.int .u8 ak,.int .i64 af,.int .u32 (m:Int),.bool r,.int .u64 l] 93 (0,0))∧w'.heap[w.heap.size]?=some (.cells (na n) 45 (0,0)))→(w'.cell? ⟨h,1,none⟩=some (.pointer (some ⟨F.mb,0,none⟩))∧w'.cell? ⟨h,3,none⟩=some (.map (some F.ub)))∧(w'.cell? ⟨B5,0,none⟩=some (.int .u8 ak)∧w'.cell? ⟨B5,1,none⟩=some (.int .i64 af)∧w'.cell? ⟨B5,2,none⟩=some (.int .u32 (m:Int))∧w'.cell? ⟨B5,3,none⟩=some (.bool r)∧w'.cell? ⟨B5,4,none⟩=some (.int .u64 l))∧(w'.cell? ⟨w.heap.size,3,none⟩=some (.int .i64 (b:Int))∧(loadCellsFrom ⟨w.heap.size,8,none⟩ 0 mm9 #[]).run Tryz.prog w' = .ok (pp.row n.d) w')):=qh fun w' ⟨e1,e2,e3⟩=>⟨⟨cr e1 1 rfl,cr e1 3 rfl⟩,⟨cr e2 0 rfl,cr e2 1 rfl,cr e2 2 rfl,cr e2 3 rfl,cr e2 4 rfl⟩,⟨by rw [← HNB.out];exact tt.cell_at (HR.out w' e3) 3 _ rfl,HLD.out w' (HR.out w' e3)⟩⟩
 have HKP:Hid (∀ w1 w2:World,Did w1 w2 F F→(w1.heap[h]?=some (.cells #[.int .i64 c.co,.pointer (some ⟨F.mb,0,none⟩),F.ev,.map (some F.ub),.pointer (some ⟨F.pb,0,none⟩)] 88 (0,0))∧w1.heap[B5]?=some (.cells #[.int .u8 ak,.int .i64 af,.int .u32 (m:Int),.bool r,.int .u64 l] 93 (0,0))∧w1.heap[w.heap.size]?=some (.cells (na n) 45 (0,0)))→(w2.heap[h]?=some (.cells #[.int .i64 c.co,.pointer (some ⟨F.mb,0,none⟩),F.ev,.map (some F.ub),.pointer (some ⟨F.pb,0,none⟩)] 88 (0,0))∧w2.heap[B5]?=some (.cells #[.int .u8 ak,.int .i64 af,.int .u32 (m:Int),.bool r,.int .u64 l] 93 (0,0))∧w2.heap[w.heap.size]?=some (.cells (na n) 45 (0,0)))):=qh fun w1 w2 d ⟨e1,e2,e3⟩=>⟨d.heap e1 HOH.out,d.heap e2 (fun e=>by have:=HOL.out _ e;have:=HL1.out;omega),d.heap e3 (fun e=>by have:=HOL.out _ e;omega)⟩
 go_wp2_with (first
  | (go_at_call 68;((with_reducible refine (HWT.out _).mono ?_);rintro e w5 ⟨rfl,rfl⟩))
  | (go_at_call 69;((with_reducible refine (HRF.out _).mono ?_);rintro e w5 ⟨rfl,hg5⟩;have h5:=(hg5.block B5 (lt_of H6.out) (by simp)).trans H6.out;have HG5:=qh (grown_trans HGQ.out hg5);have v0:=cr h5 0 rfl;have f0:w5.frozen? ⟨B5,0,none⟩=false:=(by simp [World.frozen?,h5]);have v1:=cr h5 1 rfl;have f1:w5.frozen? ⟨B5,1,none⟩=false:=(by simp [World.frozen?,h5]);have v2:=cr h5 2 rfl;have f2:w5.frozen? ⟨B5,2,none⟩=false:=(by simp [World.frozen?,h5]);have v3:=cr h5 3 rfl;have f3:w5.frozen? ⟨B5,3,none⟩=false:=(by simp [World.frozen?,h5]);have v4:=cr h5 4 rfl;have f4:w5.frozen? ⟨B5,4,none⟩=false:=(by simp [World.frozen?,h5]);obtain ⟨wM,hwM⟩:∃ wM,((((w5.setCell ⟨B5,0,none⟩ (.int .u8 ak)).setCell ⟨B5,1,none⟩ (.int .i64 af)).setCell ⟨B5,2,none⟩ (.int .u32 (m:Int))).setCell ⟨B5,3,none⟩ (.bool r)).setCell ⟨B5,4,none⟩ (.int .u64 l)=wM:=⟨_,rfl⟩;have hgM:wb.grownBy wM none:=(by rw [← hwM];exact (grown_put1 (grown_put1 (grown_put1 (grown_put1 (grown_put1 HG5.out HB5.out) HB5.out) HB5.out) HB5.out) HB5.out));have h5M:wM.heap[B5]?=some (.cells #[.int .u8 ak,.int .i64 af,.int .u32 (m:Int),.bool r,.int .u64 l] 93 (0,0)):=(by rw [← hwM];exact (setCell_heap (setCell_heap (setCell_heap (setCell_heap (setCell_heap h5 0 _) 1 _) 2 _) 3 _) 4 _));have HFM:Hid (wM.heap[h]?=some (.cells #[.int .i64 c.co,.pointer (some ⟨F.mb,0,none⟩),F.ev,.map (some F.ub),.pointer (some ⟨F.pb,0,none⟩)] 88 (0,0))∧wM.heap[B5]?=some (.cells #[.int .u8 ak,.int .i64 af,.int .u32 (m:Int),.bool r,.int .u64 l] 93 (0,0))∧wM.heap[w.heap.size]?=some (.cells (na n) 45 (0,0))):=qh ⟨(HA.out _ hgM).blk,h5M,(hgM.block _ (lt_of HBX.out) (by simp)).trans HBX.out⟩;have HAM:Hid (HomeAt wM h c F { H with mm:=H.mm }):=qh (HA.out _ hgM);have HDM:Hid (Did wb wM F F):=qh (Did.of_grown F hgM);obtain ⟨⟨g1,g2⟩,⟨g3,g4,g5,g6,g7⟩,⟨g8,g9⟩⟩:=HCF.out wM HFM.out;clear g9;clear hg5 h5 hgM h5M)))
 refine wp_region_held_drew (S:=fun w'=>w'.heap[h]?=some (.cells #[.int .i64 c.co,.pointer (some ⟨F.mb,0,none⟩),F.ev,.map (some F.ub),.pointer (some ⟨F.pb,0,none⟩)] 88 (0,0))∧w'.heap[B5]?=some (.cells #[.int .u8 ak,.int .i64 af,.int .u32 (m:Int),.bool r,.int .u64 l] 93 (0,0))∧w'.heap[w.heap.size]?=some (.cells (na n) 45 (0,0))) (by kernel_rfl) ⟨HFM.out.1,HFM.out.2.1,HFM.out.2.2⟩ (fun hHeld=>?_)
 have hAd:=HAM.out.grown (tt.grown_drew (grown_refl wM none))
 have hDd:=HDM.out.trans (Did.of_grown F (tt.grown_drew (grown_refl wM none)))
 generalize wM.drew=wd2 at hAd hDd hHeld ⊢
 refine tl 0 ?_ rfl ?_ ?_ (tl 1 ?_ rfl ?_ ?_ (tl 2 ?_ rfl ?_ ?_ (tl 3 ?_ rfl ?_ ?_ (tl 4 ?_ rfl ?_ ?_ (tl 5 ?_ rfl ?_ ?_ (tl 6 ?_ rfl ?_ ?_ ?_))))))
 iterate 7 (rotate_left;(next=>(try simp only [lay]);((intro w0 hSw;obtain ⟨⟨hs0,hs1⟩,⟨hs2,hs3,hs4,hs5,hs6⟩,⟨hs7,hs8⟩⟩:=HCF.out w0 hSw;go_simp);try (with_reducible rfl)));next=>rfl)
 try simp only [lay]
 obtain ⟨w2,hmu,hM2,hg2⟩:=tt.run_update_map Tryz.underlying86 Tryz.underlying3 hAd.und (b:Int) (.agg #[.int .u8 ak,.int .i64 af,.int .u32 (m:Int),.bool r,.int .u64 l])
 have hd1:Did wd2 w2 F F:=Did.of_own hg2 fun i e=> .inr (.inr (.inl (Option.some.inj e).symm))
 have HF2:=qh (HKP.out _ _ hd1 hHeld)
 have HA2:=qh (hAd.setUnd (jb:=H.jb.set b (some ⟨⟨ak,af,a3,a4,a5,a6,a7,a8,a9,a10⟩,m,jd,r,l⟩)) hM2 hg2 (fun k=>und_put HBJ.out ⟨⟨ak,af,a3,a4,a5,a6,a7,a8,a9,a10⟩,m,jd,r,l⟩ k) HIJ.out (ok_set HOO.out b ⟨⟨ak,af,a3,a4,a5,a6,a7,a8,a9,a10⟩,m,jd,r,l⟩ (by
  show jd=decide (m=0)
  rw [decide_eq_false HYW.out];exact HJD.out)))
 have HD2:=qh (hDd.trans hd1)
 clear hAd hDd hM2 hg2 hd1
 refine rd 7 rfl fun K hK=>?_
 go_simp
 refine hK.out _ _ HF2.out (fun hHeld=>?_)
 clear hK K
 try simp only [lay]
 refine wpAnyH_done (by kernel_rfl) ?_ _
 clear hHeld hmu
 go_wp2_with fail
 go_ret
 have hHW:=HWY.out.1 HYW.out
 rw [hHW]
 exact ⟨F,_,rfl,HA2.out,tt.Sl.nil _ _ _,(Did.of_grown F HG.out).trans HD2.out,fun k hk=>by simp [Value.ownBlock] at hk⟩
theorem hear_ref_ans (A:HomeAt w h c F H) (n:Nt) (hf:fits c n∧n.t=-1) (hw:Word n) (hT:mm.Tab w) (j:Jb) (hj:jbOf H n.b.toNat=some j) (hjd:j.d=false) (hk:n.k=10) (hh:n.h=false) (hy:(noted j n).w=0) (hyr:(noted j n).r=false):Calls Tryz.prog 44 #[.pointer (some ⟨h,0,none⟩),.agg (na n)] w fun e w'=>∃ F' v,e = .returned v ∧
  HomeAt w' h c F' (heard H n).1∧NSl w' v (heard H n).2∧Did w w' F F'∧∀ k,v.ownBlock=some k→w.heap.size ≤ k∧¬ F'.own k:=by
 obtain ⟨b,hbn⟩:∃ b:Nat,n.b=(b:Int):=⟨n.b.toNat,by have:=(blk_lt hf.1).1;omega⟩
 have hb:b < c.data.toNat:=by have:=(blk_lt hf.1).2;omega
 have HBT:Hid (n.b.toNat=b):=qh (by omega)
 rw [HBT.out] at hj
 have hjo:=A.inv.jobs b j (jbOf_get hj)
 have hnm:=A.inv.noted n hf.1 j (by rw [HBT.out];exact hj) hw
 obtain ⟨wb,hwb⟩:∃ wb,w.alloc (.cells (na n) 45)=wb:=⟨_,rfl⟩
 have hgb:w.grownBy wb none:=by rw [← hwb];exact grown_alloc (grown_refl _ _) _
 have hbx:wb.heap[w.heap.size]?=some (.cells (na n) 45 (0,0)):=by rw [← hwb];exact heap_alloc_new _ _
 have HA:Hid (∀ w',wb.grownBy w' none→HomeAt w' h c F H):=qh fun w' h'=>A.grown (grown_trans hgb h')
 have HR:Hid (∀ w':World,w'.heap[w.heap.size]?=some (.cells (na n) 45 (0,0))→w'.rangeAt w.heap.size 0 (nt n)):=qh fun w' h'=>tt.range_of h'
 have HOL:Hid (∀ i,F.own i→i < w.heap.size):=qh fun i hi=>A.own_lt hi
 have HOH:=qh A.h_own
 have HLH:=qh A.lt
 have HBJ:Hid (b < H.jb.length):=qh (by rw [A.inv.lj];exact hb)
 have HBM:Hid (b < H.mm.length):=qh (by rw [A.inv.lm];have h1:=A.inv.may.2;have h2:=data_le A.inv.may;omega)
 have HIM:Hid (Inv c { H with mm:=if n.h then H.mm.set b n.d else H.mm }):=qh (A.inv.mem n.h b n.d n.hd)
 have HIJ:Hid (Inv c { H with mm:=if n.h then H.mm.set b n.d else H.mm,jb:=H.jb.set b (some (noted j n)) }):=qh (by rw [HBT.out] at hnm;exact hnm)
 have HOO:=qh A.ok
 have HTT:=qh hT
 have HLOW:=qh A.low
 have HLK:Hid (∀ w',wb.grownBy w' none→(Instr.lookup 86 (.map (some F.ub)) (.int .i64 (b:Int)) false).run Tryz.prog w' = .ok (.agg (askA j)) w'):=qh fun w' h'=>by
  have:=(HA.out w' h').look1 b
  unfold askOr at this
  rw [hj] at this
  exact this
 have HJW:=qh hjo.w
 have HJB:Hid (JobOk c b (noted j n)):=qh (HIJ.out.jobs b (noted j n) (by show (H.jb.set b (some (noted j n)))[b]?=_;rw [List.getElem?_set_self HBJ.out]))
 have HNB:=qh hbn
 have HG:=qh hgb
 have HBX:=qh hbx
 have HF0:=qh hf
 have HBL:=qh hb
 have HNO:Hid (noted j n=⟨j.a,wo j.w n.f,j.d,j.r || decide (n.k=10),if n.k=10∧(j.r=false ∨ n.st < j.l) then n.st else j.l⟩):=qh rfl
 have HWO:=qh (wo_lt j.w n.f hjo.w)
 have HJD:Hid (j.d=false):=qh hjd
 obtain ⟨t9,mm9,HT9,hagg9,hsize9,hld9⟩:=nameB
 have HLD:Hid (∀ w':World,_):=qh fun w':World=>hld9 w.heap.size n w'
 have HWY:=qh (heard_ways H n b HBT.out HBJ.out j hj)
 have e10:(n.k == 10)=true:=by rw [hk];rfl
 have HYW:=qh hy
 have HYR:=qh hyr
 have HRF:Hid (∀ w:World,Calls Tryz.prog 69 #[.agg #[.int .u8 j.a.k,.int .i64 j.a.f,.int .u32 ((noted j n).w:Int),.bool j.r,.int .u64 j.l],.int .u64 n.st] w fun e w'=>e = .returned (.agg (askA (noted j n)))∧w.grownBy w' none):=qh fun w=>by
  have:=refused_any ⟨j.a,wo j.w n.f,j.d,j.r,j.l⟩ n.st w
  have e:refd ⟨j.a,wo j.w n.f,j.d,j.r,j.l⟩ n.st=noted j n:=by
   unfold refd noted
   dsimp only
   by_cases hc:j.r=false ∨ n.st < j.l
   ·rw [if_pos hc,if_pos ⟨hk,hc⟩,decide_eq_true hk,Bool.or_true]
   ·rw [if_neg hc,if_neg (fun e=>hc e.2),decide_eq_true hk,Bool.or_true]
    have:j.r=true:=by cases h:j.r with
     | true=>rfl
     | false=>exact absurd (.inl h) hc
    rw [this]
  rw [e] at this
  exact this
 have HM0:Hid ((if n.h=true then H.mm.set b n.d else H.mm)=H.mm):=qh (by rw [hh];rfl)
 rw [HM0.out] at HIM HIJ HWY
 have HNH:=qh hh
 clear A hgb hbx hjo hnm hf hb hbn hT hj hw hld9 hjd hk hh hy hyr
 generalize noted j n=J at *
 have HJA:Hid (J.a=j.a∧J.d=j.d∧J.w=wo j.w n.f):=qh (by rw [HNO.out];exact ⟨rfl,rfl,rfl⟩)
 obtain ⟨ja,m,jd,r,l⟩:=J
 obtain ⟨aa,m0,d0,r0,l0⟩:=j
 have hja:=HJA.out
 dsimp only at hja HWY HJB HIJ HNO HRF HLK HJW HWO HJD
 obtain ⟨rfl,rfl,hmw⟩:=hja
 obtain ⟨ak,af,a3,a4,a5,a6,a7,a8,a9,a10⟩:=ja
 have HWT:Hid (∀ w,_):=qh fun w=>mm.wout_any m0 n.f w HJW.out
 rw [← hmw] at HWT
 unfold askA at HLK
 dsimp only at HLK HWY HJB
 clear hmw HNO
 unfold askA at HRF
 dsimp only at HRF
 obtain rfl:r=false:=HYR.out
 have HK:Hid (∀ w',wb.grownBy w' none→w'.cell? ⟨h,3,none⟩=some (.map (some F.ub))∧w'.cell? ⟨w.heap.size,3,none⟩=some (.int .i64 (b:Int))):=qh fun w' h'=>⟨(HA.out w' h').cells.2.2.2.1,by rw [← HNB.out];exact tt.cell_at (HR.out w' ((h'.block _ (lt_of HBX.out) (by simp)).trans HBX.out)) 3 _ rfl⟩
 have HLK2:Hid (∀ w',wb.grownBy w' none→(Instr.lookup 86 (.map (some F.ub)) (.int .i64 (b:Int)) false).run Tryz.prog w' = .ok (.agg #[.int .u8 ak,.int .i64 af,.int .u32 (m0:Int),.bool r0,.int .u64 l0]) w'):=HLK
 go_enter Tryz.func44,Tryz.ntmps44
 go_wp2_with fail
 refine wp_region_held_drew (S:=fun w'=>wb.grownBy w' none) (by kernel_rfl) (tt.grown_drew (grown_refl _ _)) (fun hHeld=>?_)
 generalize wb.drew=wd at hHeld ⊢
 have HD0:=qh hHeld
 refine tl 0 ?_ rfl ?_ ?_ (tl 1 ?_ rfl ?_ ?_ (tl 2 ?_ rfl ?_ ?_ (tl 3 ?_ rfl ?_ ?_ (tl 4 ?_ rfl ?_ ?_ (tl 5 ?_ rfl ?_ ?_ (tl 6 ?_ rfl ?_ ?_ ?_))))))
 iterate 7 (rotate_left;(next=>(try simp only [lay]);((intro w0 hSw;obtain ⟨hs1,hs2⟩:=HK.out w0 hSw;have hs3:=HLK2.out w0 hSw;go_simp);try (with_reducible rfl)));next=>rfl)
 try simp only [lay]
 refine rd 7 rfl fun K hK=>?_
 go_simp
 refine hK.out _ _ (grown_alloc HD0.out _) (fun hHeld=>?_)
 clear hK K
 try simp only [lay]
 refine rd 8 rfl fun K hK=>?_
 go_simp
 refine hK.out _ _ (grown_alloc HD0.out _) (fun hHeld=>?_)
 clear hK K
 try simp only [lay]
 refine wpAnyH_done (by kernel_rfl) ?_ _
 clear hHeld
 have hl1:w.heap.size < wd.heap.size:=Nat.lt_of_lt_of_le (lt_of HBX.out) HD0.out.size
 have HB5:Hid (wb.heap.size ≤ wd.heap.size):=qh HD0.out.size
 obtain ⟨wP,hwP⟩:∃ wP,wd.alloc (.cells #[.int .u8 ak,.int .i64 af,.int .u32 (m0:Int),.bool r0,.int .u64 l0] 93)=wP:=⟨_,rfl⟩
 have h5:wP.heap[wd.heap.size]?=some (.cells #[.int .u8 ak,.int .i64 af,.int .u32 (m0:Int),.bool r0,.int .u64 l0] 93 (0,0)):=by rw [← hwP];exact heap_alloc_new _ _
 have hgP:wb.grownBy wP none:=by rw [← hwP];exact grown_alloc HD0.out _
 rw [hwP]
 obtain ⟨B5,hB⟩:∃ B,wd.heap.size=B:=⟨_,rfl⟩
 rw [hB] at h5 HB5 hl1 ⊢
 have HL1:=qh hl1
 have hnr:=HR.out wP ((hgP.block _ (lt_of HBX.out) (by simp)).trans HBX.out)
 have n0:=tt.cell_at hnr 0 _ rfl
 have n1:=tt.cell_at hnr 1 _ rfl
 have p2:=cr h5 2 rfl
 have f2:wP.frozen? ⟨B5,2,none⟩=false:=by simp [World.frozen?,h5]
 obtain ⟨wQ,hwQ⟩:∃ wQ,wP.setCell ⟨B5,2,none⟩ (.int .u32 (m:Int))=wQ:=⟨_,rfl⟩
 have h6:wQ.heap[B5]?=some (.cells #[.int .u8 ak,.int .i64 af,.int .u32 (m:Int),.bool r0,.int .u64 l0] 93 (0,0)):=by rw [← hwQ];exact setCell_heap h5 2 _
 have hgQ:wb.grownBy wQ none:=by rw [← hwQ];exact grown_put1 hgP HB5.out
 have hnq:=HR.out wQ ((hgQ.block _ (lt_of HBX.out) (by simp)).trans HBX.out)
 have m0':=tt.cell_at hnq 0 _ rfl
 have m4':=tt.cell_at hnq 4 _ rfl
 have m6':=tt.cell_at hnq 6 _ rfl
 rw [HNH.out] at m6'
 have m1':=tt.cell_at hnq 3 _ rfl
 rw [HNB.out] at m1'
 have s0:=cr h6 0 rfl
 have s1:=cr h6 1 rfl
 have s2:=cr h6 2 rfl
 have s3:=cr h6 3 rfl
 have s4:=cr h6 4 rfl
 have HGQ:=qh hgQ
 have H6:=qh h6
 have HAQ:=qh (HA.out _ hgQ)
 have hq1:=HAQ.out.cells.2.1
 have hq3:=HAQ.out.cells.2.2.2.1
 clear hwP h5 hgP hB hnr hnq h6 hgQ hl1
 have em:((m:Int) != 0)=false:=by have hz:m=0:=HYW.out;rw [hz];rfl
 have HCF:Hid (∀ w':World,(w'.heap[h]?=some (.cells #[.int .i64 c.co,.pointer (some ⟨F.mb,0,none⟩),F.ev,.map (some F.ub),.pointer (some ⟨F.pb,0,none⟩)] 88 (0,0))∧w'.heap[B5]?=some (.cells #[.int .u8 ak,.int .i64 af,.int .u32 (m:Int),.bool false,.int .u64 l] 93 (0,0))∧w'.heap[w.heap.size]?=some (.cells (na n) 45 (0,0)))→(w'.cell? ⟨h,1,none⟩=some (.pointer (some ⟨F.mb,0,none⟩))∧w'.cell? ⟨h,3,none⟩=some (.map (some F.ub)))∧(w'.cell? ⟨B5,0,none⟩=some (.int .u8 ak)∧w'.cell? ⟨B5,1,none⟩=some (.int .i64 af)∧w'.cell? ⟨B5,2,none⟩=some (.int .u32 (m:Int))∧w'.cell? ⟨B5,3,none⟩=some (.bool false)∧w'.cell? ⟨B5,4,none⟩=some (.int .u64 l))∧(w'.cell? ⟨w.heap.size,3,none⟩=some (.int .i64 (b:Int))∧(loadCellsFrom ⟨w.heap.size,8,none⟩ 0 mm9 #[]).run Tryz.prog w' = .ok (pp.row n.d) w')):=qh fun w' ⟨e1,e2,e3⟩=>⟨⟨cr e1 1 rfl,cr e1 3 rfl⟩,⟨cr e2 0 rfl,cr e2 1 rfl,cr e2 2 rfl,cr e2 3 rfl,cr e2 4 rfl⟩,⟨by rw [← HNB.out];exact tt.cell_at (HR.out w' e3) 3 _ rfl,HLD.out w' (HR.out w' e3)⟩⟩
 have HKP:Hid (∀ w1 w2:World,Did w1 w2 F F→(w1.heap[h]?=some (.cells #[.int .i64 c.co,.pointer (some ⟨F.mb,0,none⟩),F.ev,.map (some F.ub),.pointer (some ⟨F.pb,0,none⟩)] 88 (0,0))∧w1.heap[B5]?=some (.cells #[.int .u8 ak,.int .i64 af,.int .u32 (m:Int),.bool false,.int .u64 l] 93 (0,0))∧w1.heap[w.heap.size]?=some (.cells (na n) 45 (0,0)))→(w2.heap[h]?=some (.cells #[.int .i64 c.co,.pointer (some ⟨F.mb,0,none⟩),F.ev,.map (some F.ub),.pointer (some ⟨F.pb,0,none⟩)] 88 (0,0))∧w2.heap[B5]?=some (.cells #[.int .u8 ak,.int .i64 af,.int .u32 (m:Int),.bool false,.int .u64 l] 93 (0,0))∧w2.heap[w.heap.size]?=some (.cells (na n) 45 (0,0)))):=qh fun w1 w2 d ⟨e1,e2,e3⟩=>⟨d.heap e1 HOH.out,d.heap e2 (fun e=>by have:=HOL.out _ e;have:=HL1.out;omega),d.heap e3 (fun e=>by have:=HOL.out _ e;omega)⟩
 have HAA:Hid (∀ w',HomeAt w' h c F { H with mm:=H.mm }→_):=qh fun w' hA=>answer_any hA b HBL.out ⟨⟨ak,af,a3,a4,a5,a6,a7,a8,a9,a10⟩,m,jd,false,l⟩ HJB.out HYW.out
 unfold askA at HAA
 dsimp only at HAA
 go_wp2_with (first
  | (go_at_call 68;((with_reducible refine (HWT.out _).mono ?_);rintro e w5 ⟨rfl,rfl⟩))
  | (go_at_call 69;((with_reducible refine (HRF.out _).mono ?_);rintro e w5 ⟨rfl,hg5⟩;have h5:=(hg5.block B5 (lt_of H6.out) (by simp)).trans H6.out;have HG5:=qh (grown_trans HGQ.out hg5);have v0:=cr h5 0 rfl;have f0:w5.frozen? ⟨B5,0,none⟩=false:=(by simp [World.frozen?,h5]);have v1:=cr h5 1 rfl;have f1:w5.frozen? ⟨B5,1,none⟩=false:=(by simp [World.frozen?,h5]);have v2:=cr h5 2 rfl;have f2:w5.frozen? ⟨B5,2,none⟩=false:=(by simp [World.frozen?,h5]);have v3:=cr h5 3 rfl;have f3:w5.frozen? ⟨B5,3,none⟩=false:=(by simp [World.frozen?,h5]);have v4:=cr h5 4 rfl;have f4:w5.frozen? ⟨B5,4,none⟩=false:=(by simp [World.frozen?,h5]);obtain ⟨wM,hwM⟩:∃ wM,((((w5.setCell ⟨B5,0,none⟩ (.int .u8 ak)).setCell ⟨B5,1,none⟩ (.int .i64 af)).setCell ⟨B5,2,none⟩ (.int .u32 (m:Int))).setCell ⟨B5,3,none⟩ (.bool false)).setCell ⟨B5,4,none⟩ (.int .u64 l)=wM:=⟨_,rfl⟩;have hgM:wb.grownBy wM none:=(by rw [← hwM];exact (grown_put1 (grown_put1 (grown_put1 (grown_put1 (grown_put1 HG5.out HB5.out) HB5.out) HB5.out) HB5.out) HB5.out));have h5M:wM.heap[B5]?=some (.cells #[.int .u8 ak,.int .i64 af,.int .u32 (m:Int),.bool false,.int .u64 l] 93 (0,0)):=(by rw [← hwM];exact (setCell_heap (setCell_heap (setCell_heap (setCell_heap (setCell_heap h5 0 _) 1 _) 2 _) 3 _) 4 _));have HFM:Hid (wM.heap[h]?=some (.cells #[.int .i64 c.co,.pointer (some ⟨F.mb,0,none⟩),F.ev,.map (some F.ub),.pointer (some ⟨F.pb,0,none⟩)] 88 (0,0))∧wM.heap[B5]?=some (.cells #[.int .u8 ak,.int .i64 af,.int .u32 (m:Int),.bool false,.int .u64 l] 93 (0,0))∧wM.heap[w.heap.size]?=some (.cells (na n) 45 (0,0))):=qh ⟨(HA.out _ hgM).blk,h5M,(hgM.block _ (lt_of HBX.out) (by simp)).trans HBX.out⟩;have HAM:Hid (HomeAt wM h c F { H with mm:=H.mm }):=qh (HA.out _ hgM);have HDM:Hid (Did wb wM F F):=qh (Did.of_grown F hgM);obtain ⟨⟨g1,g2⟩,⟨g3,g4,g5,g6,g7⟩,⟨g8,g9⟩⟩:=HCF.out wM HFM.out;clear g9;clear hg5 h5 hgM h5M))
  | (go_at_call 71;((with_reducible refine (HAA.out wM HAM.out).mono ?_);rintro e w1 ⟨v,rfl,hA1,hS1,hD1,hf1⟩;have HA1:=qh hA1;have HS1:=qh hS1;have HD1:=qh hD1;have HF1:=qh hf1;clear hA1 hS1 hD1 hf1)))
 go_ret
 have hHW:=HWY.out.2.2 HYW.out (by first | rfl | trivial)
 try dsimp only at hHW
 rw [hHW]
 have HDW:Did w wM F F:=(Did.of_grown F HG.out).trans HDM.out
 exact ⟨F,v,rfl,HA1.out,HS1.out,HDW.trans HD1.out,fun k hk=>⟨Nat.le_trans HDW.size (HF1.out k hk),fun e=>Nat.lt_irrefl _ (Nat.lt_of_lt_of_le (HOL.out k e) (Nat.le_trans HDW.size (HF1.out k hk)))⟩⟩
theorem hear_ref_refd (A:HomeAt w h c F H) (n:Nt) (hf:fits c n∧n.t=-1) (hw:Word n) (hT:mm.Tab w) (j:Jb) (hj:jbOf H n.b.toNat=some j) (hjd:j.d=false) (hk:n.k=10) (hh:n.h=false) (hy:(noted j n).w=0) (hyr:(noted j n).r=true):Calls Tryz.prog 44 #[.pointer (some ⟨h,0,none⟩),.agg (na n)] w fun e w'=>∃ F' v,e = .returned v ∧
  HomeAt w' h c F' (heard H n).1∧NSl w' v (heard H n).2∧Did w w' F F'∧∀ k,v.ownBlock=some k→w.heap.size ≤ k∧¬ F'.own k:=by
 obtain ⟨b,hbn⟩:∃ b:Nat,n.b=(b:Int):=⟨n.b.toNat,by have:=(blk_lt hf.1).1;omega⟩
 have hb:b < c.data.toNat:=by have:=(blk_lt hf.1).2;omega
 have HBT:Hid (n.b.toNat=b):=qh (by omega)
 rw [HBT.out] at hj
 have hjo:=A.inv.jobs b j (jbOf_get hj)
 have hnm:=A.inv.noted n hf.1 j (by rw [HBT.out];exact hj) hw
 obtain ⟨wb,hwb⟩:∃ wb,w.alloc (.cells (na n) 45)=wb:=⟨_,rfl⟩
 have hgb:w.grownBy wb none:=by rw [← hwb];exact grown_alloc (grown_refl _ _) _
 have hbx:wb.heap[w.heap.size]?=some (.cells (na n) 45 (0,0)):=by rw [← hwb];exact heap_alloc_new _ _
 have HA:Hid (∀ w',wb.grownBy w' none→HomeAt w' h c F H):=qh fun w' h'=>A.grown (grown_trans hgb h')
 have HR:Hid (∀ w':World,w'.heap[w.heap.size]?=some (.cells (na n) 45 (0,0))→w'.rangeAt w.heap.size 0 (nt n)):=qh fun w' h'=>tt.range_of h'
 have HOL:Hid (∀ i,F.own i→i < w.heap.size):=qh fun i hi=>A.own_lt hi
 have HOH:=qh A.h_own
 have HLH:=qh A.lt
 have HBJ:Hid (b < H.jb.length):=qh (by rw [A.inv.lj];exact hb)
 have HBM:Hid (b < H.mm.length):=qh (by rw [A.inv.lm];have h1:=A.inv.may.2;have h2:=data_le A.inv.may;omega)
 have HIM:Hid (Inv c { H with mm:=if n.h then H.mm.set b n.d else H.mm }):=qh (A.inv.mem n.h b n.d n.hd)
 have HIJ:Hid (Inv c { H with mm:=if n.h then H.mm.set b n.d else H.mm,jb:=H.jb.set b (some (noted j n)) }):=qh (by rw [HBT.out] at hnm;exact hnm)
 have HOO:=qh A.ok
 have HTT:=qh hT
 have HLOW:=qh A.low
 have HLK:Hid (∀ w',wb.grownBy w' none→(Instr.lookup 86 (.map (some F.ub)) (.int .i64 (b:Int)) false).run Tryz.prog w' = .ok (.agg (askA j)) w'):=qh fun w' h'=>by
  have:=(HA.out w' h').look1 b
  unfold askOr at this
  rw [hj] at this
  exact this
 have HJW:=qh hjo.w
 have HJB:Hid (JobOk c b (noted j n)):=qh (HIJ.out.jobs b (noted j n) (by show (H.jb.set b (some (noted j n)))[b]?=_;rw [List.getElem?_set_self HBJ.out]))
 have HNB:=qh hbn
 have HG:=qh hgb
 have HBX:=qh hbx
 have HF0:=qh hf
 have HBL:=qh hb
 have HNO:Hid (noted j n=⟨j.a,wo j.w n.f,j.d,j.r || decide (n.k=10),if n.k=10∧(j.r=false ∨ n.st < j.l) then n.st else j.l⟩):=qh rfl
 have HWO:=qh (wo_lt j.w n.f hjo.w)
 have HJD:Hid (j.d=false):=qh hjd
 obtain ⟨t9,mm9,HT9,hagg9,hsize9,hld9⟩:=nameB
 have HLD:Hid (∀ w':World,_):=qh fun w':World=>hld9 w.heap.size n w'
 have HWY:=qh (heard_ways H n b HBT.out HBJ.out j hj)
 have e10:(n.k == 10)=true:=by rw [hk];rfl
 have HYW:=qh hy
 have HYR:=qh hyr
 have HRF:Hid (∀ w:World,Calls Tryz.prog 69 #[.agg #[.int .u8 j.a.k,.int .i64 j.a.f,.int .u32 ((noted j n).w:Int),.bool j.r,.int .u64 j.l],.int .u64 n.st] w fun e w'=>e = .returned (.agg (askA (noted j n)))∧w.grownBy w' none):=qh fun w=>by
  have:=refused_any ⟨j.a,wo j.w n.f,j.d,j.r,j.l⟩ n.st w
  have e:refd ⟨j.a,wo j.w n.f,j.d,j.r,j.l⟩ n.st=noted j n:=by
   unfold refd noted
   dsimp only
   by_cases hc:j.r=false ∨ n.st < j.l
   ·rw [if_pos hc,if_pos ⟨hk,hc⟩,decide_eq_true hk,Bool.or_true]
   ·rw [if_neg hc,if_neg (fun e=>hc e.2),decide_eq_true hk,Bool.or_true]
    have:j.r=true:=by cases h:j.r with
     | true=>rfl
     | false=>exact absurd (.inl h) hc
    rw [this]
  rw [e] at this
  exact this
 have HM0:Hid ((if n.h=true then H.mm.set b n.d else H.mm)=H.mm):=qh (by rw [hh];rfl)
 rw [HM0.out] at HIM HIJ HWY
 have HNH:=qh hh
 clear A hgb hbx hjo hnm hf hb hbn hT hj hw hld9 hjd hk hh hy hyr
 generalize noted j n=J at *
 have HJA:Hid (J.a=j.a∧J.d=j.d∧J.w=wo j.w n.f):=qh (by rw [HNO.out];exact ⟨rfl,rfl,rfl⟩)
 obtain ⟨ja,m,jd,r,l⟩:=J
 obtain ⟨aa,m0,d0,r0,l0⟩:=j
 have hja:=HJA.out
 dsimp only at hja HWY HJB HIJ HNO HRF HLK HJW HWO HJD
 obtain ⟨rfl,rfl,hmw⟩:=hja
 obtain ⟨ak,af,a3,a4,a5,a6,a7,a8,a9,a10⟩:=ja
 have HWT:Hid (∀ w,_):=qh fun w=>mm.wout_any m0 n.f w HJW.out
 rw [← hmw] at HWT
 unfold askA at HLK
 dsimp only at HLK HWY HJB
 clear hmw HNO
 unfold askA at HRF
 dsimp only at HRF
 obtain rfl:r=true:=HYR.out
 have HK:Hid (∀ w',wb.grownBy w' none→w'.cell? ⟨h,3,none⟩=some (.map (some F.ub))∧w'.cell? ⟨w.heap.size,3,none⟩=some (.int .i64 (b:Int))):=qh fun w' h'=>⟨(HA.out w' h').cells.2.2.2.1,by rw [← HNB.out];exact tt.cell_at (HR.out w' ((h'.block _ (lt_of HBX.out) (by simp)).trans HBX.out)) 3 _ rfl⟩
 have HLK2:Hid (∀ w',wb.grownBy w' none→(Instr.lookup 86 (.map (some F.ub)) (.int .i64 (b:Int)) false).run Tryz.prog w' = .ok (.agg #[.int .u8 ak,.int .i64 af,.int .u32 (m0:Int),.bool r0,.int .u64 l0]) w'):=HLK
 go_enter Tryz.func44,Tryz.ntmps44
 go_wp2_with fail
 refine wp_region_held_drew (S:=fun w'=>wb.grownBy w' none) (by kernel_rfl) (tt.grown_drew (grown_refl _ _)) (fun hHeld=>?_)
 generalize wb.drew=wd at hHeld ⊢
 have HD0:=qh hHeld
 refine tl 0 ?_ rfl ?_ ?_ (tl 1 ?_ rfl ?_ ?_ (tl 2 ?_ rfl ?_ ?_ (tl 3 ?_ rfl ?_ ?_ (tl 4 ?_ rfl ?_ ?_ (tl 5 ?_ rfl ?_ ?_ (tl 6 ?_ rfl ?_ ?_ ?_))))))
 iterate 7 (rotate_left;(next=>(try simp only [lay]);((intro w0 hSw;obtain ⟨hs1,hs2⟩:=HK.out w0 hSw;have hs3:=HLK2.out w0 hSw;go_simp);try (with_reducible rfl)));next=>rfl)
 try simp only [lay]
 refine rd 7 rfl fun K hK=>?_
 go_simp
 refine hK.out _ _ (grown_alloc HD0.out _) (fun hHeld=>?_)
 clear hK K
 try simp only [lay]
 refine rd 8 rfl fun K hK=>?_
 go_simp
 refine hK.out _ _ (grown_alloc HD0.out _) (fun hHeld=>?_)
 clear hK K
 try simp only [lay]
 refine wpAnyH_done (by kernel_rfl) ?_ _
 clear hHeld
 have hl1:w.heap.size < wd.heap.size:=Nat.lt_of_lt_of_le (lt_of HBX.out) HD0.out.size
 have HB5:Hid (wb.heap.size ≤ wd.heap.size):=qh HD0.out.size
 obtain ⟨wP,hwP⟩:∃ wP,wd.alloc (.cells #[.int .u8 ak,.int .i64 af,.int .u32 (m0:Int),.bool r0,.int .u64 l0] 93)=wP:=⟨_,rfl⟩
 have h5:wP.heap[wd.heap.size]?=some (.cells #[.int .u8 ak,.int .i64 af,.int .u32 (m0:Int),.bool r0,.int .u64 l0] 93 (0,0)):=by rw [← hwP];exact heap_alloc_new _ _
 have hgP:wb.grownBy wP none:=by rw [← hwP];exact grown_alloc HD0.out _
 rw [hwP]
 obtain ⟨B5,hB⟩:∃ B,wd.heap.size=B:=⟨_,rfl⟩
 rw [hB] at h5 HB5 hl1 ⊢
 have HL1:=qh hl1
 have hnr:=HR.out wP ((hgP.block _ (lt_of HBX.out) (by simp)).trans HBX.out)
 have n0:=tt.cell_at hnr 0 _ rfl
 have n1:=tt.cell_at hnr 1 _ rfl
 have p2:=cr h5 2 rfl
 have f2:wP.frozen? ⟨B5,2,none⟩=false:=by simp [World.frozen?,h5]
 obtain ⟨wQ,hwQ⟩:∃ wQ,wP.setCell ⟨B5,2,none⟩ (.int .u32 (m:Int))=wQ:=⟨_,rfl⟩
 have h6:wQ.heap[B5]?=some (.cells #[.int .u8 ak,.int .i64 af,.int .u32 (m:Int),.bool r0,.int .u64 l0] 93 (0,0)):=by rw [← hwQ];exact setCell_heap h5 2 _
 have hgQ:wb.grownBy wQ none:=by rw [← hwQ];exact grown_put1 hgP HB5.out
 have hnq:=HR.out wQ ((hgQ.block _ (lt_of HBX.out) (by simp)).trans HBX.out)
 have m0':=tt.cell_at hnq 0 _ rfl
 have m4':=tt.cell_at hnq 4 _ rfl
 have m6':=tt.cell_at hnq 6 _ rfl
 rw [HNH.out] at m6'
 have m1':=tt.cell_at hnq 3 _ rfl
 rw [HNB.out] at m1'
 have s0:=cr h6 0 rfl
 have s1:=cr h6 1 rfl
 have s2:=cr h6 2 rfl
 have s3:=cr h6 3 rfl
 have s4:=cr h6 4 rfl
 have HGQ:=qh hgQ
 have H6:=qh h6
 have HAQ:=qh (HA.out _ hgQ)
 have hq1:=HAQ.out.cells.2.1
 have hq3:=HAQ.out.cells.2.2.2.1
 clear hwP h5 hgP hB hnr hnq h6 hgQ hl1
 have em:((m:Int) != 0)=false:=by have hz:m=0:=HYW.out;rw [hz];rfl
 have HCF:Hid (∀ w':World,(w'.heap[h]?=some (.cells #[.int .i64 c.co,.pointer (some ⟨F.mb,0,none⟩),F.ev,.map (some F.ub),.pointer (some ⟨F.pb,0,none⟩)] 88 (0,0))∧w'.heap[B5]?=some (.cells #[.int .u8 ak,.int .i64 af,.int .u32 (m:Int),.bool true,.int .u64 l] 93 (0,0))∧w'.heap[w.heap.size]?=some (.cells (na n) 45 (0,0)))→(w'.cell? ⟨h,1,none⟩=some (.pointer (some ⟨F.mb,0,none⟩))∧w'.cell? ⟨h,3,none⟩=some (.map (some F.ub)))∧(w'.cell? ⟨B5,0,none⟩=some (.int .u8 ak)∧w'.cell? ⟨B5,1,none⟩=some (.int .i64 af)∧w'.cell? ⟨B5,2,none⟩=some (.int .u32 (m:Int))∧w'.cell? ⟨B5,3,none⟩=some (.bool true)∧w'.cell? ⟨B5,4,none⟩=some (.int .u64 l))∧(w'.cell? ⟨w.heap.size,3,none⟩=some (.int .i64 (b:Int))∧(loadCellsFrom ⟨w.heap.size,8,none⟩ 0 mm9 #[]).run Tryz.prog w' = .ok (pp.row n.d) w')):=qh fun w' ⟨e1,e2,e3⟩=>⟨⟨cr e1 1 rfl,cr e1 3 rfl⟩,⟨cr e2 0 rfl,cr e2 1 rfl,cr e2 2 rfl,cr e2 3 rfl,cr e2 4 rfl⟩,⟨by rw [← HNB.out];exact tt.cell_at (HR.out w' e3) 3 _ rfl,HLD.out w' (HR.out w' e3)⟩⟩
 have HKP:Hid (∀ w1 w2:World,Did w1 w2 F F→(w1.heap[h]?=some (.cells #[.int .i64 c.co,.pointer (some ⟨F.mb,0,none⟩),F.ev,.map (some F.ub),.pointer (some ⟨F.pb,0,none⟩)] 88 (0,0))∧w1.heap[B5]?=some (.cells #[.int .u8 ak,.int .i64 af,.int .u32 (m:Int),.bool true,.int .u64 l] 93 (0,0))∧w1.heap[w.heap.size]?=some (.cells (na n) 45 (0,0)))→(w2.heap[h]?=some (.cells #[.int .i64 c.co,.pointer (some ⟨F.mb,0,none⟩),F.ev,.map (some F.ub),.pointer (some ⟨F.pb,0,none⟩)] 88 (0,0))∧w2.heap[B5]?=some (.cells #[.int .u8 ak,.int .i64 af,.int .u32 (m:Int),.bool true,.int .u64 l] 93 (0,0))∧w2.heap[w.heap.size]?=some (.cells (na n) 45 (0,0)))):=qh fun w1 w2 d ⟨e1,e2,e3⟩=>⟨d.heap e1 HOH.out,d.heap e2 (fun e=>by have:=HOL.out _ e;have:=HL1.out;omega),d.heap e3 (fun e=>by have:=HOL.out _ e;omega)⟩
 obtain ⟨x,hx⟩:∃ x,x=bare 7 (-1) af (b:Int) l 0 false false:=⟨_,rfl⟩
 have hA:_=na (bare 7 (-1) af (b:Int) l 0 false false):=(tt.bare_na 7 (-1) af (b:Int) l 0 false false).symm
 rw [← hx] at hA
 have hZ:=tt.bare_na 0 0 0 0 0 0 false false
 have HXX:=qh hx
 have HZS:=qh (hZ ▸ tt.na_size (bare 0 0 0 0 0 0 false false))
 clear hx hZ
 go_wp2_with (first
  | (go_at_call 68;((with_reducible refine (HWT.out _).mono ?_);rintro e w5 ⟨rfl,rfl⟩))
  | (go_at_call 69;((with_reducible refine (HRF.out _).mono ?_);rintro e w5 ⟨rfl,hg5⟩;have h5:=(hg5.block B5 (lt_of H6.out) (by simp)).trans H6.out;have HG5:=qh (grown_trans HGQ.out hg5);have v0:=cr h5 0 rfl;have f0:w5.frozen? ⟨B5,0,none⟩=false:=(by simp [World.frozen?,h5]);have v1:=cr h5 1 rfl;have f1:w5.frozen? ⟨B5,1,none⟩=false:=(by simp [World.frozen?,h5]);have v2:=cr h5 2 rfl;have f2:w5.frozen? ⟨B5,2,none⟩=false:=(by simp [World.frozen?,h5]);have v3:=cr h5 3 rfl;have f3:w5.frozen? ⟨B5,3,none⟩=false:=(by simp [World.frozen?,h5]);have v4:=cr h5 4 rfl;have f4:w5.frozen? ⟨B5,4,none⟩=false:=(by simp [World.frozen?,h5]);obtain ⟨wM,hwM⟩:∃ wM,((((w5.setCell ⟨B5,0,none⟩ (.int .u8 ak)).setCell ⟨B5,1,none⟩ (.int .i64 af)).setCell ⟨B5,2,none⟩ (.int .u32 (m:Int))).setCell ⟨B5,3,none⟩ (.bool true)).setCell ⟨B5,4,none⟩ (.int .u64 l)=wM:=⟨_,rfl⟩;have hgM:wb.grownBy wM none:=(by rw [← hwM];exact (grown_put1 (grown_put1 (grown_put1 (grown_put1 (grown_put1 HG5.out HB5.out) HB5.out) HB5.out) HB5.out) HB5.out));have h5M:wM.heap[B5]?=some (.cells #[.int .u8 ak,.int .i64 af,.int .u32 (m:Int),.bool true,.int .u64 l] 93 (0,0)):=(by rw [← hwM];exact (setCell_heap (setCell_heap (setCell_heap (setCell_heap (setCell_heap h5 0 _) 1 _) 2 _) 3 _) 4 _));have HFM:Hid (wM.heap[h]?=some (.cells #[.int .i64 c.co,.pointer (some ⟨F.mb,0,none⟩),F.ev,.map (some F.ub),.pointer (some ⟨F.pb,0,none⟩)] 88 (0,0))∧wM.heap[B5]?=some (.cells #[.int .u8 ak,.int .i64 af,.int .u32 (m:Int),.bool true,.int .u64 l] 93 (0,0))∧wM.heap[w.heap.size]?=some (.cells (na n) 45 (0,0))):=qh ⟨(HA.out _ hgM).blk,h5M,(hgM.block _ (lt_of HBX.out) (by simp)).trans HBX.out⟩;have HAM:Hid (HomeAt wM h c F { H with mm:=H.mm }):=qh (HA.out _ hgM);have HDM:Hid (Did wb wM F F):=qh (Did.of_grown F hgM);obtain ⟨⟨g1,g2⟩,⟨g3,g4,g5,g6,g7⟩,⟨g8,g9⟩⟩:=HCF.out wM HFM.out;clear g9;clear hg5 h5 hgM h5M))
  | ((with_reducible refine tt.store_new x _ _ _ ?_ ?_ HZS.out ?_);(rfl);(rfl)))
 have HDW:Hid (Did w wM F F):=qh ((Did.of_grown F HG.out).trans HDM.out)
 have HM5:Hid (w.heap.size < wM.heap.size):=qh (lt_of HFM.out.2.2)
 have hga:wM.grownBy (wM.alloc (.cells (na x) 45)) none:=grown_alloc (grown_refl _ _) _
 have HFN:Hid ((wM.alloc (.cells (na x) 45)).heap[h]?=some (.cells #[.int .i64 c.co,.pointer (some ⟨F.mb,0,none⟩),F.ev,.map (some F.ub),.pointer (some ⟨F.pb,0,none⟩)] 88 (0,0))∧(wM.alloc (.cells (na x) 45)).heap[B5]?=some (.cells #[.int .u8 ak,.int .i64 af,.int .u32 (m:Int),.bool true,.int .u64 l] 93 (0,0))∧(wM.alloc (.cells (na x) 45)).heap[w.heap.size]?=some (.cells (na n) 45 (0,0))):=qh (HKP.out _ _ (Did.of_grown F hga) HFM.out)
 have HAN:=qh (HAM.out.grown hga)
 have HDN:=qh (HDW.out.trans (Did.of_grown F hga))
 have HBX2:Hid ((wM.alloc (.cells (na x) 45)).heap[wM.heap.size]?=some (.cells (na x) 45 (0,0))):=qh (heap_alloc_new _ _)
 obtain ⟨BN,hBN⟩:∃ B,wM.heap.size=B:=⟨_,rfl⟩
 have HBE:=qh hBN
 obtain ⟨wN,hwN⟩:∃ wN,wM.alloc (.cells (na x) 45)=wN:=⟨_,rfl⟩
 rw [hwN,hBN] at HBX2
 rw [hwN] at HFN HAN HDN
 rw [hwN,hBN]
 rw [hBN] at HM5
 clear hga hwN hBN g1 g2 g3 g4 g5 g6 g7 g8 hA
 obtain ⟨t',mm,HTL,hagg,hsize,hld⟩:=tt.named
 have hsz:=tt.na_size x
 have hfd:=tt.build_na x
 obtain ⟨i0,hi,hz0,hz1,hz2⟩:=info_parts tt.infoN
 rw [HTL.out]
 refine wp_region_held_drew (S:=fun w'=>w'.heap[BN]?=some (.cells (na x) 45 (0,0))∧w'.heap[w.heap.size]?=some (.cells (na n) 45 (0,0))) (by kernel_rfl) ⟨HBX2.out,HFN.out.2.2⟩ (fun hHeld=>?_)
 have hgd:=tt.grown_drew (grown_refl wN none)
 have HAD:=qh (HAN.out.grown hgd)
 have HDD:=qh (HDN.out.trans (Did.of_grown F hgd))
 generalize wN.drew=wd2 at hHeld HAD HDD ⊢
 clear hgd
 have HH:=qh hHeld
 have HBL2:Hid (w.heap.size ≤ BN):=qh (Nat.le_of_lt HM5.out)
 have HEN:Hid (∀ W,HomeAt W h c F { H with mm:=H.mm }→Go.Proofs.YtenhdijbcdkfbaaGreatDoor.mm.Tab W→_):=qh fun W hA hT=>end_any hA b HBL.out hT
 have HTD:Hid (Go.Proofs.YtenhdijbcdkfbaaGreatDoor.mm.Tab wd2):=qh ((HDD.out.tabs HLOW.out).1 HTT.out)
 refine tl 0 ?_ rfl ?_ ?_ (tl 2 ?_ rfl ?_ ?_ (tl 3 ?_ rfl ?_ ?_ (tl 4 ?_ rfl ?_ ?_ ?_)))
 iterate 4 (rotate_left;(next=>(try simp only [lay]);((intro w0 hSw;obtain ⟨hq1,hq2⟩:=hSw;have hs1:=hld BN x w0 (tt.range_of hq1);have hs2:w0.cell? ⟨w.heap.size,3,none⟩=some (.int .i64 (b:Int)):=(by rw [← HNB.out];exact tt.cell_at (HR.out w0 hq2) 3 _ rfl);go_simp);try (with_reducible rfl)));next=>rfl)
 try simp only [lay]
 refine wpAnyH_ready (rs:=[1,5]) (by kernel_rfl) (by simp) ?_
 refine ac rfl (fun K hK=>?_) (ac rfl (fun K hK=>?_) AllReadyH.nil)
 ·skip
  go_simp
  have hgB:wd2.grownBy (wd2.alloc (.cells (na x) 45)) none:=grown_alloc (grown_refl _ _) _
  have HAB:=qh (HAD.out.grown hgB)
  have HDB:=qh (HDD.out.trans (Did.of_grown F hgB))
  have HSB:Hid (NSl (wd2.alloc (.cells (na x) 45)) (.slice (some ⟨wd2.heap.size,0,none⟩) 1 1) [x]):=qh (nsl_one (heap_alloc_new _ _))
  have HXB:Hid ((wd2.alloc (.cells (na x) 45)).heap[BN]?=some (.cells (na x) 45 (0,0))∧(wd2.alloc (.cells (na x) 45)).heap[w.heap.size]?=some (.cells (na n) 45 (0,0))):=qh ⟨(hgB.block _ (lt_of HH.out.1) (by simp)).trans HH.out.1,(hgB.block _ (lt_of HH.out.2) (by simp)).trans HH.out.2⟩
  have HTB:Hid (Go.Proofs.YtenhdijbcdkfbaaGreatDoor.mm.Tab (wd2.alloc (.cells (na x) 45))):=qh (mtab_grown HTD.out hgB)
  refine hK.out _ _ HXB.out (fun hHeld=>?_)
  clear hK K hgB
  try simp only [lay]
  refine rd 5 rfl fun K hK=>?_
  go_simp
  (with_reducible refine (HEN.out _ HAB.out HTB.out).mono ?_);rintro e w9 ⟨F9,v,rfl,hA9,hS9,hD9,hf9⟩
  have HA9:=qh hA9
  have HVS:=qh hS9
  have HVL:Hid ((fin { H with mm:=H.mm } b).2.length ≤ 3000000):=qh (fin_len HAB.out)
  have hno:∀ k,w.heap.size ≤ k→¬ F.own k:=fun k hk e=>by have:=HOL.out k e;omega
  have HD9:=qh (HDB.out.trans hD9)
  have HSL:Hid (NSl w9 (.slice (some ⟨wd2.heap.size,0,none⟩) 1 1) [x]):=qh (hD9.sl HSB.out (fun k e=>hno k (by simp [Value.ownBlock] at e;have:=HDD.out.size;omega)))
  have HSO:Hid (∀ k,(Value.slice (some ⟨wd2.heap.size,0,none⟩) 1 1).ownBlock=some k→¬ F9.own k):=qh fun k e=>hD9.own (HSB.out.lt k e) (hno k (by simp [Value.ownBlock] at e;have:=HDD.out.size;omega))
  have HSG:Hid (∀ k,(Value.slice (some ⟨wd2.heap.size,0,none⟩) 1 1).ownBlock=some k→w.heap.size ≤ k):=qh fun k e=>by simp [Value.ownBlock] at e;have:=HDD.out.size;omega
  have HSN:Hid (∀ k,(Value.slice (some ⟨wd2.heap.size,0,none⟩) 1 1).ownBlock=some k→¬ (k=BN ∨ k=w.heap.size)):=qh fun k e=>by simp [Value.ownBlock] at e;have:=lt_of HH.out.1;have:=lt_of HH.out.2;omega
  have HX9:Hid (w9.heap[BN]?=some (.cells (na x) 45 (0,0))∧w9.heap[w.heap.size]?=some (.cells (na n) 45 (0,0))):=qh ⟨hD9.heap HXB.out.1 (hno _ HBL2.out),hD9.heap HXB.out.2 (hno _ (Nat.le_refl _))⟩
  clear hA9 hS9 hD9 hf9 hno
  go_wp2_with fail
  refine hK.out _ _ HX9.out (fun hHeld=>?_)
  clear hK K
  try simp only [lay]
  refine rd 6 rfl fun K hK=>?_
  refine tt.step_append_sl rfl (.tmp 60) (.tmp 64) 24 24 rfl 45 24 i0 (.agg (na zn)) 112 Tryz.underlying24 hi hz0 hz1 hz2 tt.zn_cells _ 1 (flat nt [x]) rfl HSL.out (fin { H with mm:=H.mm } b).2.length (flat nt (fin { H with mm:=H.mm } b).2) (by simpa [Act.eval] using HVS.out.src Tryz.underlying24 (tt.nflat_one _)) (by have:=HVL.out;unfold maxLen;omega) (by have:=HVL.out;omega) ?_
  intro v' w4 hsl4 hgr4 hnx4
  have HNS:Hid (NSl w4 v' (x :: (fin { H with mm:=H.mm } b).2)):=qh (by
   have:=hsl4
   rw [← tt.flat_append] at this
   show tt.Sl _ _ 24 v' (x :: (fin { H with mm:=H.mm } b).2).length (flat nt (x :: (fin { H with mm:=H.mm } b).2))
   rw [show (x :: (fin { H with mm:=H.mm } b).2).length=1 + (fin { H with mm:=H.mm } b).2.length by simp;omega]
   exact this)
  have HA4:=qh (HA9.out.other' hgr4 (fun k e=>HSO.out k e) (fun k e=>by obtain ⟨cur,hc⟩:=HSL.out.type k e;exact ⟨cur,hc⟩))
  have HD4:=qh (HD9.out.fresh hgr4 (fun k e=>HSG.out k e))
  have HV4:Hid (∀ k,v'.ownBlock=some k→w.heap.size ≤ k∧¬ F9.own k):=qh fun k hk=>⟨hnx4.ge HD9.out.size (fun k e=>HSG.out k e) k hk,fun e=>hnx4.elim (fun h1=>HSO.out k (h1 ▸ hk) e) (fun h1=>Nat.lt_irrefl _ (Nat.lt_of_lt_of_le (HA9.out.own_lt e) (h1 k hk)))⟩
  refine hK.out _ _ ⟨(hgr4.block _ (lt_of HX9.out.1) (fun e=>HSN.out BN e.symm (Or.inl rfl))).trans HX9.out.1,(hgr4.block _ (lt_of HX9.out.2) (fun e=>HSN.out _ e.symm (Or.inr rfl))).trans HX9.out.2⟩ (fun hHeld=>?_)
  clear hK K hsl4 hgr4 hnx4
  try simp only [lay]
  refine tl 7 ?_ rfl ?_ ?_ ?_
  (rotate_left;(next=>((intro w0 hSw;go_simp);try (with_reducible rfl)));next=>rfl)
  try simp only [lay]
  refine wpAnyH_done (by kernel_rfl) ?_ _
  clear hHeld
  go_wp2_with fail
  go_ret
  have hHW:=HWY.out.2.1 HYW.out (by first | rfl | trivial)
  rw [hHW,HNB.out]
  try dsimp only
  rw [← HXX.out]
  exact ⟨F9,v',rfl,HA4.out,HNS.out,HD4.out,HV4.out⟩
 ·skip
  go_simp
  (with_reducible refine (HEN.out _ HAD.out HTD.out).mono ?_);rintro e w8 ⟨F9,v,rfl,hA9,hS9,hD9,hf9⟩
  have hgB:w8.grownBy (w8.alloc (.cells (na x) 45)) none:=grown_alloc (grown_refl _ _) _
  have HA9:=qh (hA9.grown hgB)
  have HVS:=qh (hS9.grown hgB)
  have HVL:Hid ((fin { H with mm:=H.mm } b).2.length ≤ 3000000):=qh (fin_len HAD.out)
  have hno:∀ k,w.heap.size ≤ k→¬ F.own k:=fun k hk e=>by have:=HOL.out k e;omega
  have HX8:Hid (w8.heap[BN]?=some (.cells (na x) 45 (0,0))∧w8.heap[w.heap.size]?=some (.cells (na n) 45 (0,0))):=qh ⟨hD9.heap HH.out.1 (hno _ HBL2.out),hD9.heap HH.out.2 (hno _ (Nat.le_refl _))⟩
  have HD8:=qh (HDD.out.trans hD9)
  have HD9:=qh (HD8.out.trans (Did.of_grown F9 hgB))
  have HSL:Hid (NSl (w8.alloc (.cells (na x) 45)) (.slice (some ⟨w8.heap.size,0,none⟩) 1 1) [x]):=qh (nsl_one (heap_alloc_new _ _))
  have HSO:Hid (∀ k,(Value.slice (some ⟨w8.heap.size,0,none⟩) 1 1).ownBlock=some k→¬ F9.own k):=qh fun k e=>by
   simp [Value.ownBlock] at e
   exact fun ho=>by have:=hA9.own_lt ho;omega
  have HSG:Hid (∀ k,(Value.slice (some ⟨w8.heap.size,0,none⟩) 1 1).ownBlock=some k→w.heap.size ≤ k):=qh fun k e=>by simp [Value.ownBlock] at e;have:=HD8.out.size;omega
  have HSN:Hid (∀ k,(Value.slice (some ⟨w8.heap.size,0,none⟩) 1 1).ownBlock=some k→¬ (k=BN ∨ k=w.heap.size)):=qh fun k e=>by simp [Value.ownBlock] at e;have:=lt_of HX8.out.1;have:=lt_of HX8.out.2;omega
  have HX9:Hid ((w8.alloc (.cells (na x) 45)).heap[BN]?=some (.cells (na x) 45 (0,0))∧(w8.alloc (.cells (na x) 45)).heap[w.heap.size]?=some (.cells (na n) 45 (0,0))):=qh ⟨(hgB.block _ (lt_of HX8.out.1) (by simp)).trans HX8.out.1,(hgB.block _ (lt_of HX8.out.2) (by simp)).trans HX8.out.2⟩
  clear hA9 hS9 hD9 hf9 hno hgB
  go_wp2_with fail
  refine hK.out _ _ HX8.out (fun hHeld=>?_)
  clear hK K
  try simp only [lay]
  refine rd 1 rfl fun K hK=>?_
  go_simp
  refine hK.out _ _ HX9.out (fun hHeld=>?_)
  clear hK K
  try simp only [lay]
  refine rd 6 rfl fun K hK=>?_
  refine tt.step_append_sl rfl (.tmp 60) (.tmp 64) 24 24 rfl 45 24 i0 (.agg (na zn)) 112 Tryz.underlying24 hi hz0 hz1 hz2 tt.zn_cells _ 1 (flat nt [x]) rfl HSL.out (fin { H with mm:=H.mm } b).2.length (flat nt (fin { H with mm:=H.mm } b).2) (by simpa [Act.eval] using HVS.out.src Tryz.underlying24 (tt.nflat_one _)) (by have:=HVL.out;unfold maxLen;omega) (by have:=HVL.out;omega) ?_
  intro v' w4 hsl4 hgr4 hnx4
  have HNS:Hid (NSl w4 v' (x :: (fin { H with mm:=H.mm } b).2)):=qh (by
   have:=hsl4
   rw [← tt.flat_append] at this
   show tt.Sl _ _ 24 v' (x :: (fin { H with mm:=H.mm } b).2).length (flat nt (x :: (fin { H with mm:=H.mm } b).2))
   rw [show (x :: (fin { H with mm:=H.mm } b).2).length=1 + (fin { H with mm:=H.mm } b).2.length by simp;omega]
   exact this)
  have HA4:=qh (HA9.out.other' hgr4 (fun k e=>HSO.out k e) (fun k e=>by obtain ⟨cur,hc⟩:=HSL.out.type k e;exact ⟨cur,hc⟩))
  have HD4:=qh (HD9.out.fresh hgr4 (fun k e=>HSG.out k e))
  have HV4:Hid (∀ k,v'.ownBlock=some k→w.heap.size ≤ k∧¬ F9.own k):=qh fun k hk=>⟨hnx4.ge HD9.out.size (fun k e=>HSG.out k e) k hk,fun e=>hnx4.elim (fun h1=>HSO.out k (h1 ▸ hk) e) (fun h1=>Nat.lt_irrefl _ (Nat.lt_of_lt_of_le (HA9.out.own_lt e) (h1 k hk)))⟩
  refine hK.out _ _ ⟨(hgr4.block _ (lt_of HX9.out.1) (fun e=>HSN.out BN e.symm (Or.inl rfl))).trans HX9.out.1,(hgr4.block _ (lt_of HX9.out.2) (fun e=>HSN.out _ e.symm (Or.inr rfl))).trans HX9.out.2⟩ (fun hHeld=>?_)
  clear hK K hsl4 hgr4 hnx4
  try simp only [lay]
  refine tl 7 ?_ rfl ?_ ?_ ?_
  (rotate_left;(next=>((intro w0 hSw;go_simp);try (with_reducible rfl)));next=>rfl)
  try simp only [lay]
  refine wpAnyH_done (by kernel_rfl) ?_ _
  clear hHeld
  go_wp2_with fail
  go_ret
  have hHW:=HWY.out.2.1 HYW.out (by first | rfl | trivial)
  rw [hHW,HNB.out]
  try dsimp only
  rw [← HXX.out]
  exact ⟨F9,v',rfl,HA4.out,HNS.out,HD4.out,HV4.out⟩
end
end Go.Proofs.YtenhdijbcdkfbaaGreatDoor.hh
