/-
 What answer of a home makes of it: contract. No condition but what it names.
 What back of a home makes of it: contract. No condition but what it names.
 What begin of a home makes of it: contract. Condition: the table of de Bruijn's product lies in its variable.
-/
import Derived.Test.YtenhdijbcdkfbaaGreatDoorTl
import Derived.Test.YtenhdijbcdkfbaaGreatDoorHcD
namespace Go.Proofs.YtenhdijbcdkfbaaGreatDoor.hh
set_option linter.unusedVariables false
set_option linter.unusedSimpArgs false
set_option maxRecDepth 1000000
set_option maxHeartbeats 16000000
open Go Go.ChangeShapes Go.WideShapes Go.ChangeAt Go.RowKit
open Go.Proofs.YtenhdijbcdkfbaaGreatDoor.tt (Nt Cfg fits net bare zd usd uses coreOf ok_ends MapAt mput mdel ik NPool NSl Turn flat na nt zn grown_alloc grown_refl grown_trans tyne lt_of)
open Go.Proofs.YtenhdijbcdkfbaaGreatDoor.en (En gets back asked asks free ask_parts may_parts ea)
open Go.Proofs.YtenhdijbcdkfbaaGreatDoor.mm (wi wo ones wo_lt)
theorem cr {w:World} {g:Nat} {cs:Array Value} {t:TypeId} {fr:Nat × Nat} (h:w.heap[g]?=some (.cells cs t fr)) (k:Nat) {v:Value} (hv:cs[k]?=some v):w.cell? ⟨g,k,none⟩=some v:=(cell_of_row _ _ _ _ _ _ h).trans hv
theorem getB_row {H:Hm} {b:Nat} (hb:b < H.mm.length):pp.getB H.mm (b:Int)=rowOf H b∧pp.err (pp.inb H.mm.length (b:Int))=0:=by
 have hi:pp.inb H.mm.length (b:Int)=true:=decide_eq_true ⟨by omega,by omega⟩
 refine ⟨?_,by rw [hi];rfl⟩
 unfold pp.getB rowOf
 rw [hi,if_pos rfl,Int.toNat_natCast,List.getD_eq_getElem?_getD,List.getD_eq_getElem?_getD,List.getElem?_eq_getElem hb]
 rfl
theorem rowOf_len {c:Cfg} {H:Hm} (hI:Inv c H) (b:Nat):(rowOf H b).length=16:=by
 unfold rowOf
 rw [List.getD_eq_getElem?_getD]
 cases h:H.mm[b]? with
 | none=>rfl
 | some r=>exact hI.rows r (List.mem_of_getElem? h)
theorem grown_put {a b:World} {g:Nat} (h:a.grownBy b none) (hg:a.heap.size ≤ g) {u v:Value} {i j:Nat}:a.grownBy ((b.setCell ⟨g,i,none⟩ u).setCell ⟨g,j,none⟩ v) none:=
 ⟨h.os,h.tape,h.output,by have:=h.size;simp [World.setCell];omega,fun k hk hn=>(Below.heap_setCell _ _ _ _ (show k ≠ g by omega)).trans ((Below.heap_setCell _ _ _ _ (show k ≠ g by omega)).trans (h.block k hk hn))⟩
theorem put_two {w:World} {g:Nat} {a b:Value} {t:TypeId} (h:w.heap[g]?=some (.cells #[a,b] t (0,0))) (u v:Value):((w.setCell ⟨g,0,none⟩ u).setCell ⟨g,1,none⟩ v).heap[g]?=some (.cells #[u,v] t (0,0)):=by
 obtain ⟨cur',q1,q2,q3,q4⟩:=tt.heap_setCells g t [u,v] 0 w #[a,b] h (by simp)
 have e:(w.setCell ⟨g,0,none⟩ u).setCell ⟨g,1,none⟩ v=w.setCells g 0 [u,v]:=rfl
 rw [e,q1]
 have h0:=q4 0 u rfl
 have h1:=q4 1 v rfl
 have:cur'=#[u,v]:=by
  apply Array.ext_getElem?
  intro i
  match i with
  | 0=>simpa using h0
  | 1=>simpa using h1
  | i + 2=>rw [Array.getElem?_eq_none (by rw [q2];simp),Array.getElem?_eq_none (by simp)]
 rw [this]
theorem fold_data (x b s:Int) (d:List Int) (h:d.length=16):Array.foldl (fun (cs:Array Value) (x:Value × Nat)=>cs.setIfInBounds (8 + x.snd) x.fst) #[.int .u8 6,.int .i64 (-1),.int .i64 x,.int .i64 b,.int .u64 0,.int .u8 s,.bool true,.bool false,.int .u32 0,.int .u32 0,.int .u32 0,.int .u32 0,.int .u32 0,.int .u32 0,.int .u32 0,.int .u32 0,.int .u32 0,.int .u32 0,.int .u32 0,.int .u32 0,.int .u32 0,.int .u32 0,.int .u32 0,.int .u32 0] (pp.row d).zipIdx 0 16=na (dataN x b s d):=by
 match d,h with
 | [d0,d1,d2,d3,d4,d5,d6,d7,d8,d9,d10,d11,d12,d13,d14,d15],h=>simp [dataN,na,nt,pp.row,pp.U,tt.U]
theorem nsl_one {w:World} {g:Nat} {n:Nt} (h:w.heap[g]?=some (.cells (na n) 45 (0,0))):NSl w (.slice (some ⟨g,0,none⟩) 1 1) [n]:=by
 refine .inr ⟨g,0,1,na n,rfl,h,by simp [flat,tt.nt_len],Nat.le_refl _,by unfold maxLen;omega,by rw [tt.na_size];omega,fun k x hk=>?_⟩
 rw [tt.flat_single] at hk
 rw [Nat.zero_add]
 unfold tt.na
 rw [List.getElem?_toArray];exact hk
theorem data_le {c:Cfg} (hc:c.may):c.data ≤ c.bl:=by
 have h3:1 ≤ c.co∧c.co ≤ 16:=tt.hb_bounds (hc.1 0 (by omega))
 have h4:1 ≤ c.lo∧c.lo ≤ 4:=tt.hb_bounds (hc.1 4 (by omega))
 have:=Int.mul_nonneg (show 0 ≤ c.co by omega) (show 0 ≤ c.lo by omega)
 unfold tt.Cfg.data;omega
theorem ok_set {jb:List (Option Jb)} (h:∀ (b:Nat) (j:Jb),jb[b]?=some (some j)→j.d=decide (j.w=0)) (b:Nat) (j:Jb) (hj:j.d=decide (j.w=0)):∀ (b':Nat) (j':Jb),(jb.set b (some j))[b']?=some (some j')→j'.d=decide (j'.w=0):=fun b' j' h'=>by
 rw [List.getElem?_set] at h'
 by_cases hb:b=b'
 ·rw [if_pos hb] at h'
  by_cases hl:b < jb.length
  ·rw [if_pos hl] at h'
   have:j=j':=Option.some.inj (Option.some.inj h')
   rw [← this];exact hj
  ·rw [if_neg hl] at h';cases h'
 ·rw [if_neg hb] at h';exact h b' j' h'
theorem grown_two {a b c:World} {own:Option Nat} (h:a.grownBy b own) (k:b.grownBy c own):a.grownBy c own:=
 ⟨k.os.trans h.os,k.tape.trans h.tape,k.output.trans h.output,Nat.le_trans h.size k.size,fun i hi hn=>(k.block i (Nat.lt_of_lt_of_le hi h.size) hn).trans (h.block i hi hn)⟩
section
variable {w:World} {h:Nat} {c:Cfg} {F:Ft} {H:Hm}
theorem answer_any (A:HomeAt w h c F H) (b:Nat) (hb:b < c.data.toNat) (j:Jb) (hj:JobOk c b j) (hw:j.w=0):Calls Tryz.prog 71 #[.pointer (some ⟨h,0,none⟩),.int .i64 (b:Int),.agg (askA j)] w fun e w'=>∃ v,e = .returned v ∧
  HomeAt w' h c F { H with en:=H.en.set b (gets (enOf H b) j.a.k j.a.f).1,jb:=H.jb.set b (some { j with d:=true }) }∧NSl w' v [dataN j.a.f b (gets (enOf H b) j.a.k j.a.f).2.1 (rowOf H b)]∧Did w w' F F∧∀ k,v.ownBlock=some k→w.heap.size ≤ k:=by
 have hask:askA j=#[.int .u8 j.a.k,.int .i64 j.a.f,.int .u32 0,.bool j.r,.int .u64 j.l]:=by unfold askA;rw [hw];rfl
 rw [hask]
 obtain ⟨wb,hwb⟩:∃ wb,w.alloc (.cells #[.int .u8 j.a.k,.int .i64 j.a.f,.int .u32 0,.bool j.r,.int .u64 j.l] 93)=wb:=⟨_,rfl⟩
 have hgb:w.grownBy wb none:=by rw [← hwb];exact grown_alloc (grown_refl _ _) _
 have HA:Hid (∀ w',wb.grownBy w' none→HomeAt w' h c F H):=qh fun w' h'=>A.grown (grown_trans hgb h')
 have hbx:wb.heap[w.heap.size]?=some (.cells #[.int .u8 j.a.k,.int .i64 j.a.f,.int .u32 0,.bool j.r,.int .u64 j.l] 93 (0,0)):=by rw [← hwb];exact heap_alloc_new _ _
 have hbl:b < H.en.length:=by rw [A.inv.le];exact hb
 have hbj:b < H.jb.length:=by rw [A.inv.lj];exact hb
 have hask2:=asks_ask hj.asks hj.kind (ents_of A.inv b)
 have HI1:=qh (A.inv.job b (some j) fun j' e=>by cases e;exact hj)
 have HI2:=qh (HI1.out.answer b)
 have hjb:jbOf { H with jb:=H.jb.set b (some j) } b=some j:=get_jbOf (by show (H.jb.set b (some j))[b]?=_;rw [List.getElem?_set_self hbj])
 have hans:(answer { H with jb:=H.jb.set b (some j) } b).1={ H with en:=H.en.set b (gets (enOf H b) j.a.k j.a.f).1,jb:=H.jb.set b (some { j with d:=true }) }:=by
  unfold answer
  rw [hjb]
  simp [enOf]
 rw [hans] at HI2
 have HIE:Hid (Inv c { H with en:=H.en.set b (gets (enOf H b) j.a.k j.a.f).1 }):=qh ⟨A.inv.may,HI2.out.le,A.inv.lj,A.inv.lm,A.inv.rows,HI2.out.ents,A.inv.jobs,A.inv.wait⟩
 have HIJ:Hid (∀ (b':Nat) (j':Jb),(H.jb.set b (some { j with d:=true }))[b']?=some (some j')→j'.d=decide (j'.w=0)):=qh (ok_set A.ok b _ (by simp [hw]))
 have HUP:Hid (∀ k,mput (hh.und H) (b:Int) (.agg (askA { j with d:=true })) k=hh.und { H with jb:=H.jb.set b (some { j with d:=true }) } k):=qh fun k=>und_put hbj { j with d:=true } k
 have hask3:askA { j with d:=true }=#[.int .u8 j.a.k,.int .i64 j.a.f,.int .u32 0,.bool j.r,.int .u64 j.l]:=hask
 rw [hask3] at HUP
 have HBJ:=qh hbj
 have HBM:Hid (b < H.mm.length):=qh (by rw [A.inv.lm];have h1:=A.inv.may.2;have h2:=data_le A.inv.may;omega)
 have HLH:Hid (h < w.heap.size):=qh A.lt
 have HME:Hid (∀ e,Inv c { H with en:=H.en.set b e }→∀ w',wb.grownBy w' none→_):=qh fun e he w' h' g off cap n hv=>(HA.out w' h').setEnt (g:=g) (off:=off) (cap:=cap) (n:=n) hv hbl e he
 have hes:(enOf H b).s < 4294967296:=by
  have:=(may_parts (o:=(enOf H b).o) (s:=(enOf H b).s) (ents_of A.inv b)).2.2.1;omega
 have HQ:Hid (∀ w,_):=qh fun w=>en.gets_any (enOf H b).o (enOf H b).s j.a.k j.a.f w hes
 have HGE:Hid (gets ⟨(enOf H b).o,(enOf H b).s⟩ j.a.k j.a.f=gets (enOf H b) j.a.k j.a.f):=qh rfl
 unfold en.got at HQ
 rw [HGE.out] at HQ
 obtain ⟨g,off,cap,hev,_⟩:=A.entCells hbl
 have HK:Hid (∀ w',wb.grownBy w' none→(w'.cell? ⟨h,2,none⟩=some (.slice (some ⟨g,off,none⟩) H.en.length cap))∧(w'.cell? ⟨g,off + b * 2,none⟩=some (.int .i64 (enOf H b).o)∧w'.cell? ⟨g,off + b * 2 + 1,none⟩=some (.int .u32 ((enOf H b).s:Int)))∧(w'.cell? ⟨w.heap.size,0,none⟩=some (.int .u8 j.a.k)∧w'.cell? ⟨w.heap.size,1,none⟩=some (.int .i64 j.a.f))):=qh fun w' h'=>by
  have hA:=HA.out w' h'
  obtain ⟨g',off',cap',hev',e0,e1,_⟩:=hA.entCells hbl
  rw [hev] at hev';cases hev'
  have hr:=(h'.block _ (lt_of hbx) (by simp)).trans hbx
  exact ⟨hev ▸ hA.cells.2.2.1,⟨e0,e1⟩,⟨cell_of_row _ _ 0 _ _ _ hr,cell_of_row _ _ 1 _ _ _ hr⟩⟩
 have HHW:=qh hw
 have HBE:=qh hbl
 have HOL:Hid (∀ i,F.own i→i < w.heap.size):=qh fun i hi=>A.own_lt hi
 have HOH:=qh A.h_own
 have HEV:=qh hev
 have HG:=qh hgb
 have HBX:=qh hbx
 have hlt:(b:Int) < (H.en.length:Int):=by omega
 have hle:(0:Int) ≤ (b:Int):=by omega
 obtain ⟨q,hq⟩:∃ q,q=H.en.length:=⟨_,rfl⟩
 have HQL:=qh hq
 rw [← hq] at hlt HK
 have HRW:Hid (∀ w',wb.grownBy w' none→_):=qh fun w' h'=>(HA.out w' h').mem
 clear A hgb hbx hbl hbj hj hask2 hask3 hjb hans hes hev hq hb hw hask
 generalize gets (enOf H b) j.a.k j.a.f=r at *
 obtain ⟨⟨ro,rs⟩,rt,re⟩:=r
 generalize enOf H b=eb at *
 obtain ⟨eo,es⟩:=eb
 obtain ⟨⟨k,x,jt,jb0,jst,jss,jhh,jq,jdd,jhd⟩,jw,jd,jr,jl⟩:=j
 dsimp only at *
 go_enter Tryz.func71,Tryz.ntmps71
 go_wp2_with fail
 refine wp_region_held_drew (S:=fun w'=>wb.grownBy w' none) (by kernel_rfl) (tt.grown_drew (grown_refl _ _)) (fun hHeld=>?_)
 generalize wb.drew=wd at hHeld ⊢
 refine tl 0 ?_ rfl ?_ ?_ (tl 1 ?_ rfl ?_ ?_ (tl 2 ?_ rfl ?_ ?_ (tl 3 ?_ rfl ?_ ?_ (tl 4 ?_ rfl ?_ ?_ (tl 5 ?_ rfl ?_ ?_ ?_)))))
 iterate 6 (rotate_left;(next=>(try simp only [lay]);((intro w0 hSw;obtain ⟨hs0,⟨hs1,hs2⟩,⟨hs3,hs4⟩⟩:=HK.out w0 hSw;go_simp);try (with_reducible rfl)));next=>rfl)
 try simp only [lay]
 refine tl 6 ?_ rfl ?_ ?_ (tl 7 ?_ rfl ?_ ?_ (tl 8 ?_ rfl ?_ ?_ (tl 9 ?_ rfl ?_ ?_ (tl 10 ?_ rfl ?_ ?_ ?_))))
 iterate 5 (rotate_left;(next=>(try simp only [lay]);((intro w0 hSw;obtain ⟨hs0,⟨hs1,hs2⟩,⟨hs3,hs4⟩⟩:=HK.out w0 hSw;go_simp);try (with_reducible rfl)));next=>rfl)
 try simp only [lay]
 have HD0:=qh hHeld
 refine wpAnyH_ready (rs:=[11,16]) (by kernel_rfl) (by simp) ?_
 refine ac rfl (fun K hK=>?_) (ac rfl (fun K hK=>?_) AllReadyH.nil)
 ·skip
  go_simp
  (with_reducible refine (HQ.out _).mono ?_);rintro e wg ⟨rfl,hg5⟩;have HGG:=qh (grown_trans hHeld hg5)
  go_wp2_with fail
  refine hK.out _ _ HGG.out (fun hHeld=>?_)
  clear hK K
  try simp only [lay]
  refine tl 12 ?_ rfl ?_ ?_ (tl 13 ?_ rfl ?_ ?_ (tl 14 ?_ rfl ?_ ?_ (tl 15 ?_ rfl ?_ ?_ ?_)))
  iterate 4 (rotate_left;(next=>(try simp only [lay]);((intro w0 hSw;go_simp);try (with_reducible rfl)));next=>rfl)
  try simp only [lay]
  refine rd 16 rfl fun K hK=>?_
  go_simp
  refine hK.out _ _ (grown_alloc HGG.out _) (fun hHeld=>?_)
  clear hK K
  try simp only [lay]
  refine rd 17 rfl fun K hK=>?_
  go_simp
  refine hK.out _ _ (grown_alloc HGG.out _) (fun hHeld=>?_)
  clear hK K
  try simp only [lay]
  refine tl 18 ?_ rfl ?_ ?_ (tl 19 ?_ rfl ?_ ?_ ?_)
  iterate 2 (rotate_left;(next=>(try simp only [lay]);((intro w0 hSw;go_simp);try (with_reducible rfl)));next=>rfl)
  try simp only [lay]
  refine wpAnyH_done (by kernel_rfl) ?_ _
  clear hHeld
  go_wp2_with fail
  obtain ⟨wX,hX⟩:∃ wX,wg.alloc (.cells #[.int .i64 ro,.int .u32 (rs:Int)] 58)=wX:=⟨_,rfl⟩
  have hgd:wb.grownBy wX.drew none:=by rw [← hX];exact tt.grown_drew (grown_alloc HGG.out _)
  have h7:wX.drew.heap[wg.heap.size]?=some (.cells #[.int .i64 ro,.int .u32 (rs:Int)] 58 (0,0)):=by rw [← hX];exact heap_alloc_new _ _
  have HW7:Hid (wb.heap.size ≤ wg.heap.size):=qh HGG.out.size
  rw [hX]
  obtain ⟨B7,hB⟩:∃ B,wg.heap.size=B:=⟨_,rfl⟩
  rw [hB] at h7 HW7 ⊢
  clear hB hX
  have HKF:Hid (∀ w':World,(w'.heap[h]?=some (.cells #[.int .i64 c.co,.pointer (some ⟨F.mb,0,none⟩),F.ev,.map (some F.ub),.pointer (some ⟨F.pb,0,none⟩)] 88 (0,0))∧w'.heap[B7]?=some (.cells #[.int .i64 ro,.int .u32 (rs:Int)] 58 (0,0))∧w'.heap[w.heap.size]?=some (.cells #[.int .u8 k,.int .i64 x,.int .u32 0,.bool jr,.int .u64 jl] 93 (0,0)))→(w'.cell? ⟨h,2,none⟩=some (.slice (some ⟨g,off,none⟩) q cap)∧w'.cell? ⟨h,3,none⟩=some (.map (some F.ub)))∧(w'.cell? ⟨B7,0,none⟩=some (.int .i64 ro)∧w'.cell? ⟨B7,1,none⟩=some (.int .u32 (rs:Int)))∧(w'.cell? ⟨w.heap.size,0,none⟩=some (.int .u8 k)∧w'.cell? ⟨w.heap.size,1,none⟩=some (.int .i64 x)∧w'.cell? ⟨w.heap.size,2,none⟩=some (.int .u32 0)∧w'.cell? ⟨w.heap.size,3,none⟩=some (.bool jr)∧w'.cell? ⟨w.heap.size,4,none⟩=some (.int .u64 jl))):=qh fun w' ⟨e1,e2,e3⟩=>⟨⟨by have:=cr e1 2 rfl;rw [HEV.out,← HQL.out] at this;exact this,cr e1 3 rfl⟩,⟨cr e2 0 rfl,cr e2 1 rfl⟩,⟨cr e3 0 rfl,cr e3 1 rfl,cr e3 2 rfl,cr e3 3 rfl,cr e3 4 rfl⟩⟩
  have HKP:Hid (∀ w1 w2:World,Did w1 w2 F F→(w1.heap[h]?=some (.cells #[.int .i64 c.co,.pointer (some ⟨F.mb,0,none⟩),F.ev,.map (some F.ub),.pointer (some ⟨F.pb,0,none⟩)] 88 (0,0))∧w1.heap[B7]?=some (.cells #[.int .i64 ro,.int .u32 (rs:Int)] 58 (0,0))∧w1.heap[w.heap.size]?=some (.cells #[.int .u8 k,.int .i64 x,.int .u32 0,.bool jr,.int .u64 jl] 93 (0,0)))→(w2.heap[h]?=some (.cells #[.int .i64 c.co,.pointer (some ⟨F.mb,0,none⟩),F.ev,.map (some F.ub),.pointer (some ⟨F.pb,0,none⟩)] 88 (0,0))∧w2.heap[B7]?=some (.cells #[.int .i64 ro,.int .u32 (rs:Int)] 58 (0,0))∧w2.heap[w.heap.size]?=some (.cells #[.int .u8 k,.int .i64 x,.int .u32 0,.bool jr,.int .u64 jl] 93 (0,0)))):=qh fun w1 w2 d ⟨e1,e2,e3⟩=>⟨d.heap e1 HOH.out,d.heap e2 (fun e=>by have:=HOL.out _ e;have:=HW7.out;have:=HG.out.size;omega),d.heap e3 (fun e=>by have:=HOL.out _ e;omega)⟩
  refine wp_region_held_drew (S:=fun w'=>w'.heap[h]?=some (.cells #[.int .i64 c.co,.pointer (some ⟨F.mb,0,none⟩),F.ev,.map (some F.ub),.pointer (some ⟨F.pb,0,none⟩)] 88 (0,0))∧w'.heap[B7]?=some (.cells #[.int .i64 ro,.int .u32 (rs:Int)] 58 (0,0))∧w'.heap[w.heap.size]?=some (.cells #[.int .u8 k,.int .i64 x,.int .u32 0,.bool jr,.int .u64 jl] 93 (0,0))) (by kernel_rfl) ⟨(HA.out _ hgd).blk,h7,(hgd.block _ (lt_of HBX.out) (by simp)).trans HBX.out⟩ (fun hHeld=>?_)
  generalize wX.drew=wd2 at hgd h7 hHeld ⊢
  refine tl 0 ?_ rfl ?_ ?_ (tl 1 ?_ rfl ?_ ?_ (tl 2 ?_ rfl ?_ ?_ (tl 3 ?_ rfl ?_ ?_ (tl 4 ?_ rfl ?_ ?_ (tl 5 ?_ rfl ?_ ?_ (tl 6 ?_ rfl ?_ ?_ ?_))))))
  iterate 7 (rotate_left;(next=>(try simp only [lay]);((intro w0 hSw;obtain ⟨⟨hs0,hs1⟩,⟨hs2,hs3⟩,⟨hs4,hs5,hs6,hs7,hs8⟩⟩:=HKF.out w0 hSw;go_simp);try (with_reducible rfl)));next=>rfl)
  try simp only [lay]
  refine tl 7 ?_ rfl ?_ ?_ (tl 8 ?_ rfl ?_ ?_ (tl 9 ?_ rfl ?_ ?_ (tl 10 ?_ rfl ?_ ?_ (tl 11 ?_ rfl ?_ ?_ (tl 12 ?_ rfl ?_ ?_ ?_)))))
  iterate 6 (rotate_left;(next=>(try simp only [lay]);((intro w0 hSw;obtain ⟨⟨hs0,hs1⟩,⟨hs2,hs3⟩,⟨hs4,hs5,hs6,hs7,hs8⟩⟩:=HKF.out w0 hSw;go_simp);try (with_reducible rfl)));next=>rfl)
  try simp only [lay]
  have hAd:=HA.out _ hgd
  obtain ⟨hAs,hgs⟩:=HME.out _ HIE.out _ hgd g off cap _ HEV.out
  obtain ⟨ws,hws⟩:∃ ws,(wd2.setCell ⟨g,off + b * 2,none⟩ (.int .i64 ro)).setCell ⟨g,off + b * 2 + 1,none⟩ (.int .u32 (rs:Int))=ws:=⟨_,rfl⟩
  obtain ⟨g',off',cap',hev',c0,c1,f0,f1⟩:=hAd.entCells HBE.out
  rw [HEV.out] at hev';cases hev'
  dsimp only at hAs hgs
  rw [hws] at hAs hgs
  obtain ⟨v0,st,w1,hme,hg1,hz1,hst⟩:=tt.run_entry_map Tryz.underlying86 Tryz.underlying3 hAs.und (zeroAsk ws) (b:Int)
  obtain ⟨w3,hes,hM3,hg3,hz3⟩:=hst (.agg #[.int .u8 k,.int .i64 x,.int .u32 0,.bool jr,.int .u64 jl]) w1 rfl
  have hA3:=hAs.setUnd hM3 (grown_two hg1 hg3) HUP.out HI2.out HIJ.out
  have hd1:Did wd2 ws F F:=Did.of_own hgs fun i e=> .inr (.inl (by cases e;rw [HEV.out];rfl))
  have hd2:Did ws w1 F F:=Did.of_own hg1 fun i e=> .inr (.inr (.inl (Option.some.inj e).symm))
  have hd3:Did w1 w3 F F:=Did.of_own hg3 fun i e=> .inr (.inr (.inl (Option.some.inj e).symm))
  have HK1:=qh (HKP.out _ _ hd1 hHeld)
  have HK2:=qh (HKP.out _ _ hd2 HK1.out)
  have HK3:=qh (HKP.out _ _ hd3 HK2.out)
  have HA3:=qh hA3
  have HD3:=qh (((Did.of_grown F hgd).trans hd1).trans (hd2.trans hd3))
  have HWS:=qh hws
  clear hAd hAs hgs hst hM3 hA3 hd1 hd2 hd3 hg1 hg3 hz1 hz3 hws
  refine rd 13 rfl fun K hK=>?_
  go_simp
  rw [HWS.out]
  refine hK.out _ _ HK1.out (fun hHeld=>?_)
  clear hK K
  try simp only [lay]
  refine rd 14 rfl fun K hK=>?_
  go_simp
  refine hK.out _ _ HK2.out (fun hHeld=>?_)
  clear hK K
  try simp only [lay]
  refine tl 15 ?_ rfl ?_ ?_ ?_
  (rotate_left;(next=>((intro w0 hSw;go_simp);try (with_reducible rfl)));next=>rfl)
  try simp only [lay]
  refine rd 16 rfl fun K hK=>?_
  go_simp
  refine hK.out _ _ HK3.out (fun hHeld=>?_)
  clear hK K
  try simp only [lay]
  refine wpAnyH_done (by kernel_rfl) ?_ _
  clear hHeld hme hes
  have hc1:=HA3.out.cells.2.1
  have HBL:=qh (pp.block_any HA3.out.mem (b:Int))
  rw [(getB_row HBM.out).1,(getB_row HBM.out).2] at HBL
  have HRL:=qh (rowOf_len HI1.out b)
  have HRO:Hid (rowOf { H with jb:=H.jb.set b (some ⟨⟨k,x,jt,jb0,jst,jss,jhh,jq,jdd,jhd⟩,jw,jd,jr,jl⟩) } b=rowOf H b):=qh rfl
  rw [HRO.out] at HRL
  obtain ⟨rw0,hrw⟩:∃ r,r=rowOf H b:=⟨_,rfl⟩
  rw [← hrw] at HBL HRL
  have HRW0:=qh hrw
  have hrs:(pp.row rw0).size=16:=by rw [pp.row_size];exact HRL.out
  have hfd:=fold_data x b rt rw0 HRL.out
  clear hrw
  have HN:Hid (∀ x s,_):=qh fun (x s:Int)=>tt.na_size (dataN x b s rw0)
  have HN2:Hid (∀ x s,_):=qh fun (x s:Int)=>tt.build_na (dataN x b s rw0)
  have hn1:=HN.out x rt
  have hn2:=HN2.out x rt
  have HW3:Hid (w.heap.size < w3.heap.size):=qh (lt_of HK3.out.2.2)
  go_wp2_with (first
   | (go_at_call 19;((with_reducible refine HBL.out.mono ?_);rintro e w4 ⟨rfl,hg4⟩;have hx4:=hg4.cell (cr HK3.out.2.2 1 rfl) (by simp);have hl4:w.heap.size < w4.heap.size:=Nat.lt_of_lt_of_le HW3.out hg4.size;have hl5:¬ w.heap.size=w4.heap.size:=Nat.ne_of_lt hl4;have HG4:=qh hg4;clear hg4))
   | ((with_reducible refine pp.store_new' rw0 _ _ ?_ ?_ HRL.out ?_);(rfl);(rfl))
   | ((with_reducible refine pp.load_any rw0 _ w4.heap.size ?_ (heap_alloc_new _ _) HRL.out ?_);(rfl)))
  have hgf:w3.grownBy ((w4.alloc (.cells (pp.row rw0) 43)).alloc (.cells (na (dataN x b rt rw0)) 45)) none:=grown_alloc (grown_alloc HG4.out _) _
  go_ret
  refine ⟨_,rfl,HA3.out.grown hgf,?_,((Did.of_grown F HG.out).trans HD3.out).trans (Did.of_grown F hgf),fun k hk=>?_⟩
  ·rw [← HRW0.out]
   exact nsl_one (heap_new2 _ _ _ _)
  ·have h1:=HW3.out
   have h2:=HG4.out.size
   simp [Value.ownBlock] at hk
   omega
 ·skip
  go_simp
  refine hK.out _ _ (grown_alloc HD0.out _) (fun hHeld=>?_)
  clear hK K
  try simp only [lay]
  refine rd 11 rfl fun K hK=>?_
  go_simp
  (with_reducible refine (HQ.out _).mono ?_);rintro e wg ⟨rfl,hg5⟩;have HGG:=qh (grown_trans hHeld hg5);have HZ7:=qh ((hg5.block wd.heap.size (by simp) (by simp)).trans (heap_alloc_new _ _))
  go_wp2_with fail
  refine hK.out _ _ HGG.out (fun hHeld=>?_)
  clear hK K
  try simp only [lay]
  refine tl 12 ?_ rfl ?_ ?_ (tl 13 ?_ rfl ?_ ?_ (tl 14 ?_ rfl ?_ ?_ (tl 15 ?_ rfl ?_ ?_ ?_)))
  iterate 4 (rotate_left;(next=>(try simp only [lay]);((intro w0 hSw;go_simp);try (with_reducible rfl)));next=>rfl)
  try simp only [lay]
  have z0:=cr HZ7.out 0 rfl
  have z1:=cr HZ7.out 1 rfl
  have zf0:wg.frozen? ⟨wd.heap.size,0,none⟩=false:=by simp [World.frozen?,HZ7.out]
  have zf1:wg.frozen? ⟨wd.heap.size,1,none⟩=false:=by simp [World.frozen?,HZ7.out]
  refine rd 17 rfl fun K hK=>?_
  go_simp
  refine hK.out _ _ (grown_put HGG.out HD0.out.size) (fun hHeld=>?_)
  clear hK K
  try simp only [lay]
  refine tl 18 ?_ rfl ?_ ?_ (tl 19 ?_ rfl ?_ ?_ ?_)
  iterate 2 (rotate_left;(next=>(try simp only [lay]);((intro w0 hSw;go_simp);try (with_reducible rfl)));next=>rfl)
  try simp only [lay]
  refine wpAnyH_done (by kernel_rfl) ?_ _
  clear hHeld z0 z1 zf0 zf1
  go_wp2_with fail
  obtain ⟨wX,hX⟩:∃ wX,(wg.setCell ⟨wd.heap.size,0,none⟩ (.int .i64 ro)).setCell ⟨wd.heap.size,1,none⟩ (.int .u32 (rs:Int))=wX:=⟨_,rfl⟩
  have hgd:wb.grownBy wX.drew none:=by rw [← hX];exact tt.grown_drew (grown_put HGG.out HD0.out.size)
  have h7:wX.drew.heap[wd.heap.size]?=some (.cells #[.int .i64 ro,.int .u32 (rs:Int)] 58 (0,0)):=by rw [← hX];exact put_two HZ7.out _ _
  have HW7:Hid (wb.heap.size ≤ wd.heap.size):=qh HD0.out.size
  rw [hX]
  obtain ⟨B7,hB⟩:∃ B,wd.heap.size=B:=⟨_,rfl⟩
  rw [hB] at h7 HW7 ⊢
  clear hB hX
  have HKF:Hid (∀ w':World,(w'.heap[h]?=some (.cells #[.int .i64 c.co,.pointer (some ⟨F.mb,0,none⟩),F.ev,.map (some F.ub),.pointer (some ⟨F.pb,0,none⟩)] 88 (0,0))∧w'.heap[B7]?=some (.cells #[.int .i64 ro,.int .u32 (rs:Int)] 58 (0,0))∧w'.heap[w.heap.size]?=some (.cells #[.int .u8 k,.int .i64 x,.int .u32 0,.bool jr,.int .u64 jl] 93 (0,0)))→(w'.cell? ⟨h,2,none⟩=some (.slice (some ⟨g,off,none⟩) q cap)∧w'.cell? ⟨h,3,none⟩=some (.map (some F.ub)))∧(w'.cell? ⟨B7,0,none⟩=some (.int .i64 ro)∧w'.cell? ⟨B7,1,none⟩=some (.int .u32 (rs:Int)))∧(w'.cell? ⟨w.heap.size,0,none⟩=some (.int .u8 k)∧w'.cell? ⟨w.heap.size,1,none⟩=some (.int .i64 x)∧w'.cell? ⟨w.heap.size,2,none⟩=some (.int .u32 0)∧w'.cell? ⟨w.heap.size,3,none⟩=some (.bool jr)∧w'.cell? ⟨w.heap.size,4,none⟩=some (.int .u64 jl))):=qh fun w' ⟨e1,e2,e3⟩=>⟨⟨by have:=cr e1 2 rfl;rw [HEV.out,← HQL.out] at this;exact this,cr e1 3 rfl⟩,⟨cr e2 0 rfl,cr e2 1 rfl⟩,⟨cr e3 0 rfl,cr e3 1 rfl,cr e3 2 rfl,cr e3 3 rfl,cr e3 4 rfl⟩⟩
  have HKP:Hid (∀ w1 w2:World,Did w1 w2 F F→(w1.heap[h]?=some (.cells #[.int .i64 c.co,.pointer (some ⟨F.mb,0,none⟩),F.ev,.map (some F.ub),.pointer (some ⟨F.pb,0,none⟩)] 88 (0,0))∧w1.heap[B7]?=some (.cells #[.int .i64 ro,.int .u32 (rs:Int)] 58 (0,0))∧w1.heap[w.heap.size]?=some (.cells #[.int .u8 k,.int .i64 x,.int .u32 0,.bool jr,.int .u64 jl] 93 (0,0)))→(w2.heap[h]?=some (.cells #[.int .i64 c.co,.pointer (some ⟨F.mb,0,none⟩),F.ev,.map (some F.ub),.pointer (some ⟨F.pb,0,none⟩)] 88 (0,0))∧w2.heap[B7]?=some (.cells #[.int .i64 ro,.int .u32 (rs:Int)] 58 (0,0))∧w2.heap[w.heap.size]?=some (.cells #[.int .u8 k,.int .i64 x,.int .u32 0,.bool jr,.int .u64 jl] 93 (0,0)))):=qh fun w1 w2 d ⟨e1,e2,e3⟩=>⟨d.heap e1 HOH.out,d.heap e2 (fun e=>by have:=HOL.out _ e;have:=HW7.out;have:=HG.out.size;omega),d.heap e3 (fun e=>by have:=HOL.out _ e;omega)⟩
  refine wp_region_held_drew (S:=fun w'=>w'.heap[h]?=some (.cells #[.int .i64 c.co,.pointer (some ⟨F.mb,0,none⟩),F.ev,.map (some F.ub),.pointer (some ⟨F.pb,0,none⟩)] 88 (0,0))∧w'.heap[B7]?=some (.cells #[.int .i64 ro,.int .u32 (rs:Int)] 58 (0,0))∧w'.heap[w.heap.size]?=some (.cells #[.int .u8 k,.int .i64 x,.int .u32 0,.bool jr,.int .u64 jl] 93 (0,0))) (by kernel_rfl) ⟨(HA.out _ hgd).blk,h7,(hgd.block _ (lt_of HBX.out) (by simp)).trans HBX.out⟩ (fun hHeld=>?_)
  generalize wX.drew=wd2 at hgd h7 hHeld ⊢
  refine tl 0 ?_ rfl ?_ ?_ (tl 1 ?_ rfl ?_ ?_ (tl 2 ?_ rfl ?_ ?_ (tl 3 ?_ rfl ?_ ?_ (tl 4 ?_ rfl ?_ ?_ (tl 5 ?_ rfl ?_ ?_ (tl 6 ?_ rfl ?_ ?_ ?_))))))
  iterate 7 (rotate_left;(next=>(try simp only [lay]);((intro w0 hSw;obtain ⟨⟨hs0,hs1⟩,⟨hs2,hs3⟩,⟨hs4,hs5,hs6,hs7,hs8⟩⟩:=HKF.out w0 hSw;go_simp);try (with_reducible rfl)));next=>rfl)
  try simp only [lay]
  refine tl 7 ?_ rfl ?_ ?_ (tl 8 ?_ rfl ?_ ?_ (tl 9 ?_ rfl ?_ ?_ (tl 10 ?_ rfl ?_ ?_ (tl 11 ?_ rfl ?_ ?_ (tl 12 ?_ rfl ?_ ?_ ?_)))))
  iterate 6 (rotate_left;(next=>(try simp only [lay]);((intro w0 hSw;obtain ⟨⟨hs0,hs1⟩,⟨hs2,hs3⟩,⟨hs4,hs5,hs6,hs7,hs8⟩⟩:=HKF.out w0 hSw;go_simp);try (with_reducible rfl)));next=>rfl)
  try simp only [lay]
  have hAd:=HA.out _ hgd
  obtain ⟨hAs,hgs⟩:=HME.out _ HIE.out _ hgd g off cap _ HEV.out
  obtain ⟨ws,hws⟩:∃ ws,(wd2.setCell ⟨g,off + b * 2,none⟩ (.int .i64 ro)).setCell ⟨g,off + b * 2 + 1,none⟩ (.int .u32 (rs:Int))=ws:=⟨_,rfl⟩
  obtain ⟨g',off',cap',hev',c0,c1,f0,f1⟩:=hAd.entCells HBE.out
  rw [HEV.out] at hev';cases hev'
  dsimp only at hAs hgs
  rw [hws] at hAs hgs
  obtain ⟨v0,st,w1,hme,hg1,hz1,hst⟩:=tt.run_entry_map Tryz.underlying86 Tryz.underlying3 hAs.und (zeroAsk ws) (b:Int)
  obtain ⟨w3,hes,hM3,hg3,hz3⟩:=hst (.agg #[.int .u8 k,.int .i64 x,.int .u32 0,.bool jr,.int .u64 jl]) w1 rfl
  have hA3:=hAs.setUnd hM3 (grown_two hg1 hg3) HUP.out HI2.out HIJ.out
  have hd1:Did wd2 ws F F:=Did.of_own hgs fun i e=> .inr (.inl (by cases e;rw [HEV.out];rfl))
  have hd2:Did ws w1 F F:=Did.of_own hg1 fun i e=> .inr (.inr (.inl (Option.some.inj e).symm))
  have hd3:Did w1 w3 F F:=Did.of_own hg3 fun i e=> .inr (.inr (.inl (Option.some.inj e).symm))
  have HK1:=qh (HKP.out _ _ hd1 hHeld)
  have HK2:=qh (HKP.out _ _ hd2 HK1.out)
  have HK3:=qh (HKP.out _ _ hd3 HK2.out)
  have HA3:=qh hA3
  have HD3:=qh (((Did.of_grown F hgd).trans hd1).trans (hd2.trans hd3))
  have HWS:=qh hws
  clear hAd hAs hgs hst hM3 hA3 hd1 hd2 hd3 hg1 hg3 hz1 hz3 hws
  refine rd 13 rfl fun K hK=>?_
  go_simp
  rw [HWS.out]
  refine hK.out _ _ HK1.out (fun hHeld=>?_)
  clear hK K
  try simp only [lay]
  refine rd 14 rfl fun K hK=>?_
  go_simp
  refine hK.out _ _ HK2.out (fun hHeld=>?_)
  clear hK K
  try simp only [lay]
  refine tl 15 ?_ rfl ?_ ?_ ?_
  (rotate_left;(next=>((intro w0 hSw;go_simp);try (with_reducible rfl)));next=>rfl)
  try simp only [lay]
  refine rd 16 rfl fun K hK=>?_
  go_simp
  refine hK.out _ _ HK3.out (fun hHeld=>?_)
  clear hK K
  try simp only [lay]
  refine wpAnyH_done (by kernel_rfl) ?_ _
  clear hHeld hme hes
  have hc1:=HA3.out.cells.2.1
  have HBL:=qh (pp.block_any HA3.out.mem (b:Int))
  rw [(getB_row HBM.out).1,(getB_row HBM.out).2] at HBL
  have HRL:=qh (rowOf_len HI1.out b)
  have HRO:Hid (rowOf { H with jb:=H.jb.set b (some ⟨⟨k,x,jt,jb0,jst,jss,jhh,jq,jdd,jhd⟩,jw,jd,jr,jl⟩) } b=rowOf H b):=qh rfl
  rw [HRO.out] at HRL
  obtain ⟨rw0,hrw⟩:∃ r,r=rowOf H b:=⟨_,rfl⟩
  rw [← hrw] at HBL HRL
  have HRW0:=qh hrw
  have hrs:(pp.row rw0).size=16:=by rw [pp.row_size];exact HRL.out
  have hfd:=fold_data x b rt rw0 HRL.out
  clear hrw
  have HN:Hid (∀ x s,_):=qh fun (x s:Int)=>tt.na_size (dataN x b s rw0)
  have HN2:Hid (∀ x s,_):=qh fun (x s:Int)=>tt.build_na (dataN x b s rw0)
  have hn1:=HN.out x rt
  have hn2:=HN2.out x rt
  have HW3:Hid (w.heap.size < w3.heap.size):=qh (lt_of HK3.out.2.2)
  go_wp2_with (first
   | (go_at_call 19;((with_reducible refine HBL.out.mono ?_);rintro e w4 ⟨rfl,hg4⟩;have hx4:=hg4.cell (cr HK3.out.2.2 1 rfl) (by simp);have hl4:w.heap.size < w4.heap.size:=Nat.lt_of_lt_of_le HW3.out hg4.size;have hl5:¬ w.heap.size=w4.heap.size:=Nat.ne_of_lt hl4;have HG4:=qh hg4;clear hg4))
   | ((with_reducible refine pp.store_new' rw0 _ _ ?_ ?_ HRL.out ?_);(rfl);(rfl))
   | ((with_reducible refine pp.load_any rw0 _ w4.heap.size ?_ (heap_alloc_new _ _) HRL.out ?_);(rfl)))
  have hgf:w3.grownBy ((w4.alloc (.cells (pp.row rw0) 43)).alloc (.cells (na (dataN x b rt rw0)) 45)) none:=grown_alloc (grown_alloc HG4.out _) _
  go_ret
  refine ⟨_,rfl,HA3.out.grown hgf,?_,((Did.of_grown F HG.out).trans HD3.out).trans (Did.of_grown F hgf),fun k hk=>?_⟩
  ·rw [← HRW0.out]
   exact nsl_one (heap_new2 _ _ _ _)
  ·have h1:=HW3.out
   have h2:=HG4.out.size
   simp [Value.ownBlock] at hk
   omega
end
end Go.Proofs.YtenhdijbcdkfbaaGreatDoor.hh
namespace Go.Proofs.YtenhdijbcdkfbaaGreatDoor.hh
set_option linter.unusedVariables false
set_option linter.unusedSimpArgs false
set_option maxRecDepth 1000000
set_option maxHeartbeats 16000000
open Go Go.ChangeShapes Go.WideShapes Go.ChangeAt Go.RowKit
open Go.Proofs.YtenhdijbcdkfbaaGreatDoor.tt (Nt Cfg fits net bare zd usd uses coreOf ok_ends MapAt mput mdel ik NPool NSl Turn flat na nt zn grown_alloc grown_refl grown_trans tyne lt_of)
open Go.Proofs.YtenhdijbcdkfbaaGreatDoor.en (En gets back asked asks free ask_parts may_parts ea)
open Go.Proofs.YtenhdijbcdkfbaaGreatDoor.mm (wi wo ones wo_lt)
theorem nameB:∃ (t:TypeId) (m:Nat),Hid (Op.load 43=Op.load t)∧(∀ w,(isAgg t).run Tryz.prog w = .ok true w)∧(∀ w,(sizeOf t).run Tryz.prog w = .ok m w) ∧
  ∀ (g:Nat) (n:Nt) (w:World),w.rangeAt g 0 (nt n)→(loadCellsFrom ⟨g,8,none⟩ 0 m #[]).run Tryz.prog w = .ok (pp.row n.d) w:=
 ⟨43,16,qh rfl,Tryz.isAgg43,Tryz.sizeOf43,fun g n w h=>by
  have:=run_loadCells_list (P:=Tryz.prog) w ⟨g,8,none⟩ (n.d.map tt.U) (fun j v hv=>by
   rw [pp.add_lit]
   have:=h (8 + j) v (by rw [tt.nt_d,← List.getElem?_map];exact hv)
   rwa [Nat.zero_add] at this)
  rw [← row_same]
  simpa [loadCells,n.hd,tt.row] using this⟩
theorem setB_in {H:Hm} {b:Nat} (hb:b < H.mm.length) (x:List Int):pp.setB H.mm (b:Int) x=H.mm.set b x:=by
 have hi:pp.inb H.mm.length (b:Int)=true:=decide_eq_true ⟨by omega,by omega⟩
 unfold pp.setB
 rw [hi,if_pos rfl,Int.toNat_natCast]
section
variable {w:World} {h:Nat} {c:Cfg} {F:Ft} {H:Hm}
theorem back_any (A:HomeAt w h c F H) (n:Nt) (hn:Asks c n) (h3:n.k=3) (tk:Bool) (htk:(back (enOf H n.b.toNat) n.f n.q).2.1=tk):Calls Tryz.prog 74 #[.pointer (some ⟨h,0,none⟩),.agg (na n)] w fun e w'=>∃ v,e = .returned v ∧
  HomeAt w' h c F { H with en:=H.en.set n.b.toNat (back (enOf H n.b.toNat) n.f n.q).1,mm:=if tk then H.mm.set n.b.toNat n.d else H.mm }∧NSl w' v [bare 8 (-1) n.f n.b 0 0 false false]∧Did w w' F F∧∀ k,v.ownBlock=some k→w.heap.size ≤ k:=by
 obtain ⟨hb0,hb⟩:=blk_lt hn.fits
 obtain ⟨b,hbn⟩:∃ b:Nat,n.b=(b:Int):=⟨n.b.toNat,by omega⟩
 rw [hbn,Int.toNat_natCast] at hb
 rw [hbn,Int.toNat_natCast] at htk ⊢
 clear hb0
 obtain ⟨wb,hwb⟩:∃ wb,w.alloc (.cells (na n) 45)=wb:=⟨_,rfl⟩
 have hgb:w.grownBy wb none:=by rw [← hwb];exact grown_alloc (grown_refl _ _) _
 have HA:Hid (∀ w',wb.grownBy w' none→HomeAt w' h c F H):=qh fun w' h'=>A.grown (grown_trans hgb h')
 have hbx:wb.heap[w.heap.size]?=some (.cells (na n) 45 (0,0)):=by rw [← hwb];exact heap_alloc_new _ _
 have HR:Hid (∀ w':World,w'.heap[w.heap.size]?=some (.cells (na n) 45 (0,0))→w'.rangeAt w.heap.size 0 (nt n)):=qh fun w' h'=>tt.range_of h'
 have hbl:b < H.en.length:=by rw [A.inv.le];exact hb
 have HBE:=qh hbl
 have HBM:Hid (b < H.mm.length):=qh (by rw [A.inv.lm];have h1:=A.inv.may.2;have h2:=data_le A.inv.may;omega)
 have hmayb:(back (enOf H b) n.f n.q).1.may=true:=back_may (ents_of A.inv b)
 have HI1:Hid (Inv c { H with mm:=if tk then H.mm.set b n.d else H.mm }):=qh (A.inv.mem tk b n.d n.hd)
 have HI2:Hid (Inv c { H with en:=H.en.set b (back (enOf H b) n.f n.q).1,mm:=if tk then H.mm.set b n.d else H.mm }):=qh ⟨HI1.out.may,by rw [List.length_set];exact HI1.out.le,HI1.out.lj,HI1.out.lm,HI1.out.rows,fun e he=>by
  rcases mem_set he with he | rfl
  ·exact HI1.out.ents e he
  ·exact hmayb,HI1.out.jobs,HI1.out.wait⟩
 have HOL:Hid (∀ i,F.own i→i < w.heap.size):=qh fun i hi=>A.own_lt hi
 have HOH:=qh A.h_own
 have hes:(enOf H b).s < 4294967296:=by
  have:=(may_parts (o:=(enOf H b).o) (s:=(enOf H b).s) (ents_of A.inv b)).2.2.1;omega
 have HQ:Hid (∀ w,_):=qh fun w=>en.back_any (enOf H b).o (enOf H b).s n.f n.q w hes
 have HGE:Hid (back ⟨(enOf H b).o,(enOf H b).s⟩ n.f n.q=back (enOf H b) n.f n.q):=qh rfl
 unfold en.gone at HQ
 rw [HGE.out,htk] at HQ
 obtain ⟨g,off,cap,hev,_⟩:=A.entCells hbl
 obtain ⟨t9,mm9,HT9,hagg9,hsize9,hld9⟩:=nameB
 have HK:Hid (∀ w',wb.grownBy w' none→(w'.cell? ⟨h,2,none⟩=some (.slice (some ⟨g,off,none⟩) H.en.length cap))∧(w'.cell? ⟨g,off + b * 2,none⟩=some (.int .i64 (enOf H b).o)∧w'.cell? ⟨g,off + b * 2 + 1,none⟩=some (.int .u32 ((enOf H b).s:Int)))∧(w'.cell? ⟨w.heap.size,1,none⟩=some (.int .i64 n.f)∧w'.cell? ⟨w.heap.size,3,none⟩=some (.int .i64 (b:Int))∧w'.cell? ⟨w.heap.size,7,none⟩=some (.bool n.q))):=qh fun w' h'=>by
  have hA:=HA.out w' h'
  obtain ⟨g',off',cap',hev',e0,e1,_⟩:=hA.entCells hbl
  rw [hev] at hev';cases hev'
  have hr:=HR.out w' ((h'.block _ (lt_of hbx) (by simp)).trans hbx)
  exact ⟨hev ▸ hA.cells.2.2.1,⟨e0,e1⟩,⟨tt.cell_at hr 1 _ rfl,by rw [← hbn];exact tt.cell_at hr 3 _ rfl,tt.cell_at hr 7 _ rfl⟩⟩
 have HNB:=qh hbn
 have HEV:=qh hev
 have HG:=qh hgb
 have HBX:=qh hbx
 have HLD:Hid (∀ w':World,_):=qh fun w':World=>hld9 w.heap.size n w'
 have HSB:Hid (∀ w',wb.grownBy w' none→_):=qh fun w' h'=>pp.set_block_any (HA.out w' h').mem (b:Int) n.d n.hd
 have hlt:(b:Int) < (H.en.length:Int):=by omega
 have hle:(0:Int) ≤ (b:Int):=by omega
 obtain ⟨q,hq⟩:∃ q,q=H.en.length:=⟨_,rfl⟩
 have HQL:=qh hq
 rw [← hq] at hlt HK
 have HHT:=qh htk
 clear A hgb hbx hbl hb hmayb hes hev hq hbn htk hld9 hn h3
 generalize back (enOf H b) n.f n.q=r at *
 obtain ⟨⟨ro,rs⟩,rt,re⟩:=r
 generalize enOf H b=eb at *
 obtain ⟨eo,es⟩:=eb
 dsimp only at *
 go_enter Tryz.func74,Tryz.ntmps74
 go_wp2_with fail
 refine wp_region_held_drew (S:=fun w'=>wb.grownBy w' none) (by kernel_rfl) (tt.grown_drew (grown_refl _ _)) (fun hHeld=>?_)
 generalize wb.drew=wd at hHeld ⊢
 refine tl 0 ?_ rfl ?_ ?_ (tl 1 ?_ rfl ?_ ?_ (tl 2 ?_ rfl ?_ ?_ (tl 3 ?_ rfl ?_ ?_ (tl 4 ?_ rfl ?_ ?_ (tl 5 ?_ rfl ?_ ?_ ?_)))))
 iterate 6 (rotate_left;(next=>(try simp only [lay]);((intro w0 hSw;obtain ⟨hs0,⟨hs1,hs2⟩,⟨hs3,hs4,hs5⟩⟩:=HK.out w0 hSw;go_simp);try (with_reducible rfl)));next=>rfl)
 try simp only [lay]
 refine tl 6 ?_ rfl ?_ ?_ (tl 7 ?_ rfl ?_ ?_ (tl 8 ?_ rfl ?_ ?_ (tl 9 ?_ rfl ?_ ?_ (tl 10 ?_ rfl ?_ ?_ (tl 11 ?_ rfl ?_ ?_ ?_)))))
 iterate 6 (rotate_left;(next=>(try simp only [lay]);((intro w0 hSw;obtain ⟨hs0,⟨hs1,hs2⟩,⟨hs3,hs4,hs5⟩⟩:=HK.out w0 hSw;go_simp);try (with_reducible rfl)));next=>rfl)
 try simp only [lay]
 have HD0:=qh hHeld
 refine wpAnyH_ready (rs:=[12,17]) (by kernel_rfl) (by simp) ?_
 refine ac rfl (fun K hK=>?_) (ac rfl (fun K hK=>?_) AllReadyH.nil)
 ·skip
  go_simp
  (with_reducible refine (HQ.out _).mono ?_);rintro e wg ⟨rfl,hg5⟩;have HGG:=qh (grown_trans hHeld hg5)
  go_wp2_with fail
  refine hK.out _ _ HGG.out (fun hHeld=>?_)
  clear hK K
  try simp only [lay]
  refine tl 13 ?_ rfl ?_ ?_ (tl 14 ?_ rfl ?_ ?_ (tl 15 ?_ rfl ?_ ?_ (tl 16 ?_ rfl ?_ ?_ ?_)))
  iterate 4 (rotate_left;(next=>(try simp only [lay]);((intro w0 hSw;go_simp);try (with_reducible rfl)));next=>rfl)
  try simp only [lay]
  refine rd 17 rfl fun K hK=>?_
  go_simp
  refine hK.out _ _ (grown_alloc HGG.out _) (fun hHeld=>?_)
  clear hK K
  try simp only [lay]
  refine rd 18 rfl fun K hK=>?_
  go_simp
  refine hK.out _ _ (grown_alloc HGG.out _) (fun hHeld=>?_)
  clear hK K
  try simp only [lay]
  refine tl 19 ?_ rfl ?_ ?_ (tl 20 ?_ rfl ?_ ?_ ?_)
  iterate 2 (rotate_left;(next=>(try simp only [lay]);((intro w0 hSw;go_simp);try (with_reducible rfl)));next=>rfl)
  try simp only [lay]
  refine wpAnyH_done (by kernel_rfl) ?_ _
  clear hHeld
  obtain ⟨wX,hX⟩:∃ wX,wg.alloc (.cells #[.int .i64 ro,.int .u32 (rs:Int)] 58)=wX:=⟨_,rfl⟩
  have hgd:wb.grownBy wX none:=by rw [← hX];exact grown_alloc HGG.out _
  have h7:wX.heap[wg.heap.size]?=some (.cells #[.int .i64 ro,.int .u32 (rs:Int)] 58 (0,0)):=by rw [← hX];exact heap_alloc_new _ _
  have HW7:Hid (wb.heap.size ≤ wg.heap.size):=qh HGG.out.size
  rw [hX]
  obtain ⟨B7,hB⟩:∃ B,wg.heap.size=B:=⟨_,rfl⟩
  rw [hB] at h7 HW7 ⊢
  clear hB hX
  have HKF:Hid (∀ w':World,(w'.heap[h]?=some (.cells #[.int .i64 c.co,.pointer (some ⟨F.mb,0,none⟩),F.ev,.map (some F.ub),.pointer (some ⟨F.pb,0,none⟩)] 88 (0,0))∧w'.heap[B7]?=some (.cells #[.int .i64 ro,.int .u32 (rs:Int)] 58 (0,0))∧w'.heap[w.heap.size]?=some (.cells (na n) 45 (0,0)))→(w'.cell? ⟨h,1,none⟩=some (.pointer (some ⟨F.mb,0,none⟩))∧w'.cell? ⟨h,2,none⟩=some (.slice (some ⟨g,off,none⟩) q cap))∧(w'.cell? ⟨B7,0,none⟩=some (.int .i64 ro)∧w'.cell? ⟨B7,1,none⟩=some (.int .u32 (rs:Int)))∧(w'.cell? ⟨w.heap.size,1,none⟩=some (.int .i64 n.f)∧w'.cell? ⟨w.heap.size,3,none⟩=some (.int .i64 (b:Int))∧(loadCellsFrom ⟨w.heap.size,8,none⟩ 0 mm9 #[]).run Tryz.prog w' = .ok (pp.row n.d) w')):=qh fun w' ⟨e1,e2,e3⟩=>⟨⟨cr e1 1 rfl,by have:=cr e1 2 rfl;rw [HEV.out,← HQL.out] at this;exact this⟩,⟨cr e2 0 rfl,cr e2 1 rfl⟩,⟨tt.cell_at (HR.out w' e3) 1 _ rfl,by rw [← HNB.out];exact tt.cell_at (HR.out w' e3) 3 _ rfl,HLD.out w' (HR.out w' e3)⟩⟩
  have HKP:Hid (∀ w1 w2:World,Did w1 w2 F F→(w1.heap[h]?=some (.cells #[.int .i64 c.co,.pointer (some ⟨F.mb,0,none⟩),F.ev,.map (some F.ub),.pointer (some ⟨F.pb,0,none⟩)] 88 (0,0))∧w1.heap[B7]?=some (.cells #[.int .i64 ro,.int .u32 (rs:Int)] 58 (0,0))∧w1.heap[w.heap.size]?=some (.cells (na n) 45 (0,0)))→(w2.heap[h]?=some (.cells #[.int .i64 c.co,.pointer (some ⟨F.mb,0,none⟩),F.ev,.map (some F.ub),.pointer (some ⟨F.pb,0,none⟩)] 88 (0,0))∧w2.heap[B7]?=some (.cells #[.int .i64 ro,.int .u32 (rs:Int)] 58 (0,0))∧w2.heap[w.heap.size]?=some (.cells (na n) 45 (0,0)))):=qh fun w1 w2 d ⟨e1,e2,e3⟩=>⟨d.heap e1 HOH.out,d.heap e2 (fun e=>by have:=HOL.out _ e;have:=HW7.out;have:=HG.out.size;omega),d.heap e3 (fun e=>by have:=HOL.out _ e;omega)⟩
  have HFX0:Hid (wX.heap[h]?=some (.cells #[.int .i64 c.co,.pointer (some ⟨F.mb,0,none⟩),F.ev,.map (some F.ub),.pointer (some ⟨F.pb,0,none⟩)] 88 (0,0))∧wX.heap[B7]?=some (.cells #[.int .i64 ro,.int .u32 (rs:Int)] 58 (0,0))∧wX.heap[w.heap.size]?=some (.cells (na n) 45 (0,0))):=qh ⟨(HA.out _ hgd).blk,h7,(hgd.block _ (lt_of HBX.out) (by simp)).trans HBX.out⟩
  have HGX:=qh hgd
  clear h7 hgd
  cases tk with
  | false=>
   obtain ⟨wM,hwM⟩:∃ wM,wM=wX:=⟨_,rfl⟩
   have HAM:Hid (HomeAt wM h c F { H with mm:=if false=true then H.mm.set b n.d else H.mm }):=qh (by rw [hwM];exact HA.out _ HGX.out)
   have HDM:Hid (Did wb wM F F):=qh (by rw [hwM];exact Did.of_grown F HGX.out)
   have HFM:Hid (wM.heap[h]?=some (.cells #[.int .i64 c.co,.pointer (some ⟨F.mb,0,none⟩),F.ev,.map (some F.ub),.pointer (some ⟨F.pb,0,none⟩)] 88 (0,0))∧wM.heap[B7]?=some (.cells #[.int .i64 ro,.int .u32 (rs:Int)] 58 (0,0))∧wM.heap[w.heap.size]?=some (.cells (na n) 45 (0,0))):=qh (by rw [hwM];exact HFX0.out)
   rw [← hwM]
   clear hwM
   go_wp2_with fail
   refine wp_region_held_drew (S:=fun w'=>w'.heap[h]?=some (.cells #[.int .i64 c.co,.pointer (some ⟨F.mb,0,none⟩),F.ev,.map (some F.ub),.pointer (some ⟨F.pb,0,none⟩)] 88 (0,0))∧w'.heap[B7]?=some (.cells #[.int .i64 ro,.int .u32 (rs:Int)] 58 (0,0))∧w'.heap[w.heap.size]?=some (.cells (na n) 45 (0,0))) (by kernel_rfl) ⟨HFM.out.1,HFM.out.2.1,HFM.out.2.2⟩ (fun hHeld=>?_)
   have hAd:=HAM.out.grown (tt.grown_drew (grown_refl wM none))
   have hDd:=HDM.out.trans (Did.of_grown F (tt.grown_drew (grown_refl wM none)))
   generalize wM.drew=wd3 at hAd hDd hHeld ⊢
   refine tl 0 ?_ rfl ?_ ?_ (tl 1 ?_ rfl ?_ ?_ (tl 2 ?_ rfl ?_ ?_ (tl 3 ?_ rfl ?_ ?_ (tl 4 ?_ rfl ?_ ?_ (tl 5 ?_ rfl ?_ ?_ (tl 6 ?_ rfl ?_ ?_ (tl 7 ?_ rfl ?_ ?_ ?_)))))))
   iterate 8 (rotate_left;(next=>(try simp only [lay]);((intro w0 hSw;obtain ⟨⟨hs0,hs1⟩,⟨hs2,hs3⟩,⟨hs4,hs5,hs6⟩⟩:=HKF.out w0 hSw;go_simp);try (with_reducible rfl)));next=>rfl)
   try simp only [lay]
   obtain ⟨hAs,hgs⟩:=hAd.setEnt HEV.out HBE.out ⟨ro,rs⟩ HI2.out
   obtain ⟨ws,hws⟩:∃ ws,(wd3.setCell ⟨g,off + b * 2,none⟩ (.int .i64 ro)).setCell ⟨g,off + b * 2 + 1,none⟩ (.int .u32 (rs:Int))=ws:=⟨_,rfl⟩
   obtain ⟨g',off',cap',hev',c0,c1,f0,f1⟩:=hAd.entCells HBE.out
   rw [HEV.out] at hev';cases hev'
   dsimp only at hAs hgs
   rw [hws] at hAs hgs
   have hd1:Did wd3 ws F F:=Did.of_own hgs fun i e=> .inr (.inl (by cases e;rw [HEV.out];rfl))
   have HK1:=qh (HKP.out _ _ hd1 hHeld)
   have HAS:=qh hAs
   have HDS:=qh (hDd.trans hd1)
   have HWS:=qh hws
   clear hAd hAs hgs hd1 hws hDd
   refine rd 8 rfl fun K hK=>?_
   go_simp
   rw [HWS.out]
   refine hK.out _ _ HK1.out (fun hHeld=>?_)
   clear hK K
   try simp only [lay]
   refine wpAnyH_done (by kernel_rfl) ?_ _
   clear hHeld
   obtain ⟨⟨k0,k1⟩,⟨k2,k3⟩,⟨k4,k5,k6⟩⟩:=HKF.out ws HK1.out
   clear k6
   go_wp2_with fail
   have HZ:=qh (tt.bare_na 8 (-1) n.f (b:Int) 0 0 false false)
   rw [← HZ.out]
   go_ret
   have HLW:w.heap.size < ws.heap.size:=lt_of HK1.out.2.2
   refine ⟨_,rfl,HAS.out.grown (grown_alloc (grown_refl _ _) _),nsl_one (heap_alloc_new _ _),((Did.of_grown F HG.out).trans HDS.out).trans (Did.of_grown F (grown_alloc (grown_refl _ _) _)),fun k hk=>?_⟩
   simp [Value.ownBlock] at hk
   omega
  | true=>
   go_wp2_with fail
   rw [HT9.out]
   refine wp_region_held_drew (S:=fun w'=>w'.heap[h]?=some (.cells #[.int .i64 c.co,.pointer (some ⟨F.mb,0,none⟩),F.ev,.map (some F.ub),.pointer (some ⟨F.pb,0,none⟩)] 88 (0,0))∧w'.heap[B7]?=some (.cells #[.int .i64 ro,.int .u32 (rs:Int)] 58 (0,0))∧w'.heap[w.heap.size]?=some (.cells (na n) 45 (0,0))) (by kernel_rfl) ⟨HFX0.out.1,HFX0.out.2.1,HFX0.out.2.2⟩ (fun hHeld=>?_)
   have hgx:=tt.grown_drew HGX.out
   generalize wX.drew=wd2 at hgx hHeld ⊢
   refine tl 0 ?_ rfl ?_ ?_ (tl 1 ?_ rfl ?_ ?_ (tl 2 ?_ rfl ?_ ?_ (tl 3 ?_ rfl ?_ ?_ (tl 4 ?_ rfl ?_ ?_ (tl 5 ?_ rfl ?_ ?_ (tl 6 ?_ rfl ?_ ?_ (tl 7 ?_ rfl ?_ ?_ ?_)))))))
   iterate 8 (rotate_left;(next=>(try simp only [lay]);((intro w0 hSw;obtain ⟨⟨hs0,hs1⟩,⟨hs2,hs3⟩,⟨hs4,hs5,hs6⟩⟩:=HKF.out w0 hSw;go_simp);try (with_reducible rfl)));next=>rfl)
   try simp only [lay]
   refine rd 8 rfl fun K hK=>?_
   go_simp
   (with_reducible refine (HSB.out _ hgx).mono ?_);rintro e wM ⟨rfl,hM,hgM⟩;have hDm:Did wd2 wM F F:=(Did.of_own hgM fun i e=> .inl e);have hMM:=setB_in HBM.out n.d;rw [hMM] at hM;have HAM:=qh ((HA.out _ hgx).setMem hM hgM HI1.out);have HDM:=qh ((Did.of_grown F hgx).trans hDm);have HFM:=qh (HKP.out _ _ hDm hHeld);clear hM hgM hDm hMM
   go_wp2_with fail
   refine hK.out _ _ HFM.out (fun hHeld=>?_)
   clear hK K
   try simp only [lay]
   refine wpAnyH_done (by kernel_rfl) ?_ _
   clear hHeld hgx
   go_wp2_with fail
   refine wp_region_held_drew (S:=fun w'=>w'.heap[h]?=some (.cells #[.int .i64 c.co,.pointer (some ⟨F.mb,0,none⟩),F.ev,.map (some F.ub),.pointer (some ⟨F.pb,0,none⟩)] 88 (0,0))∧w'.heap[B7]?=some (.cells #[.int .i64 ro,.int .u32 (rs:Int)] 58 (0,0))∧w'.heap[w.heap.size]?=some (.cells (na n) 45 (0,0))) (by kernel_rfl) ⟨HFM.out.1,HFM.out.2.1,HFM.out.2.2⟩ (fun hHeld=>?_)
   have hAd:=HAM.out.grown (tt.grown_drew (grown_refl wM none))
   have hDd:=HDM.out.trans (Did.of_grown F (tt.grown_drew (grown_refl wM none)))
   generalize wM.drew=wd3 at hAd hDd hHeld ⊢
   refine tl 0 ?_ rfl ?_ ?_ (tl 1 ?_ rfl ?_ ?_ (tl 2 ?_ rfl ?_ ?_ (tl 3 ?_ rfl ?_ ?_ (tl 4 ?_ rfl ?_ ?_ (tl 5 ?_ rfl ?_ ?_ (tl 6 ?_ rfl ?_ ?_ (tl 7 ?_ rfl ?_ ?_ ?_)))))))
   iterate 8 (rotate_left;(next=>(try simp only [lay]);((intro w0 hSw;obtain ⟨⟨hs0,hs1⟩,⟨hs2,hs3⟩,⟨hs4,hs5,hs6⟩⟩:=HKF.out w0 hSw;go_simp);try (with_reducible rfl)));next=>rfl)
   try simp only [lay]
   obtain ⟨hAs,hgs⟩:=hAd.setEnt HEV.out HBE.out ⟨ro,rs⟩ HI2.out
   obtain ⟨ws,hws⟩:∃ ws,(wd3.setCell ⟨g,off + b * 2,none⟩ (.int .i64 ro)).setCell ⟨g,off + b * 2 + 1,none⟩ (.int .u32 (rs:Int))=ws:=⟨_,rfl⟩
   obtain ⟨g',off',cap',hev',c0,c1,f0,f1⟩:=hAd.entCells HBE.out
   rw [HEV.out] at hev';cases hev'
   dsimp only at hAs hgs
   rw [hws] at hAs hgs
   have hd1:Did wd3 ws F F:=Did.of_own hgs fun i e=> .inr (.inl (by cases e;rw [HEV.out];rfl))
   have HK1:=qh (HKP.out _ _ hd1 hHeld)
   have HAS:=qh hAs
   have HDS:=qh (hDd.trans hd1)
   have HWS:=qh hws
   clear hAd hAs hgs hd1 hws hDd
   refine rd 8 rfl fun K hK=>?_
   go_simp
   rw [HWS.out]
   refine hK.out _ _ HK1.out (fun hHeld=>?_)
   clear hK K
   try simp only [lay]
   refine wpAnyH_done (by kernel_rfl) ?_ _
   clear hHeld
   obtain ⟨⟨k0,k1⟩,⟨k2,k3⟩,⟨k4,k5,k6⟩⟩:=HKF.out ws HK1.out
   clear k6
   go_wp2_with fail
   have HZ:=qh (tt.bare_na 8 (-1) n.f (b:Int) 0 0 false false)
   rw [← HZ.out]
   go_ret
   have HLW:w.heap.size < ws.heap.size:=lt_of HK1.out.2.2
   refine ⟨_,rfl,HAS.out.grown (grown_alloc (grown_refl _ _) _),nsl_one (heap_alloc_new _ _),((Did.of_grown F HG.out).trans HDS.out).trans (Did.of_grown F (grown_alloc (grown_refl _ _) _)),fun k hk=>?_⟩
   simp [Value.ownBlock] at hk
   omega
 ·skip
  go_simp
  refine hK.out _ _ (grown_alloc HD0.out _) (fun hHeld=>?_)
  clear hK K
  try simp only [lay]
  refine rd 12 rfl fun K hK=>?_
  go_simp
  (with_reducible refine (HQ.out _).mono ?_);rintro e wg ⟨rfl,hg5⟩;have HGG:=qh (grown_trans hHeld hg5);have HZ7:=qh ((hg5.block wd.heap.size (by simp) (by simp)).trans (heap_alloc_new _ _))
  go_wp2_with fail
  refine hK.out _ _ HGG.out (fun hHeld=>?_)
  clear hK K
  try simp only [lay]
  refine tl 13 ?_ rfl ?_ ?_ (tl 14 ?_ rfl ?_ ?_ (tl 15 ?_ rfl ?_ ?_ (tl 16 ?_ rfl ?_ ?_ ?_)))
  iterate 4 (rotate_left;(next=>(try simp only [lay]);((intro w0 hSw;go_simp);try (with_reducible rfl)));next=>rfl)
  try simp only [lay]
  have z0:=cr HZ7.out 0 rfl
  have z1:=cr HZ7.out 1 rfl
  have zf0:wg.frozen? ⟨wd.heap.size,0,none⟩=false:=by simp [World.frozen?,HZ7.out]
  have zf1:wg.frozen? ⟨wd.heap.size,1,none⟩=false:=by simp [World.frozen?,HZ7.out]
  refine rd 18 rfl fun K hK=>?_
  go_simp
  refine hK.out _ _ (grown_put HGG.out HD0.out.size) (fun hHeld=>?_)
  clear hK K
  try simp only [lay]
  refine tl 19 ?_ rfl ?_ ?_ (tl 20 ?_ rfl ?_ ?_ ?_)
  iterate 2 (rotate_left;(next=>(try simp only [lay]);((intro w0 hSw;go_simp);try (with_reducible rfl)));next=>rfl)
  try simp only [lay]
  refine wpAnyH_done (by kernel_rfl) ?_ _
  clear hHeld z0 z1 zf0 zf1
  obtain ⟨wX,hX⟩:∃ wX,(wg.setCell ⟨wd.heap.size,0,none⟩ (.int .i64 ro)).setCell ⟨wd.heap.size,1,none⟩ (.int .u32 (rs:Int))=wX:=⟨_,rfl⟩
  have hgd:wb.grownBy wX none:=by rw [← hX];exact (grown_put HGG.out HD0.out.size)
  have h7:wX.heap[wd.heap.size]?=some (.cells #[.int .i64 ro,.int .u32 (rs:Int)] 58 (0,0)):=by rw [← hX];exact put_two HZ7.out _ _
  have HW7:Hid (wb.heap.size ≤ wd.heap.size):=qh HD0.out.size
  rw [hX]
  obtain ⟨B7,hB⟩:∃ B,wd.heap.size=B:=⟨_,rfl⟩
  rw [hB] at h7 HW7 ⊢
  clear hB hX
  have HKF:Hid (∀ w':World,(w'.heap[h]?=some (.cells #[.int .i64 c.co,.pointer (some ⟨F.mb,0,none⟩),F.ev,.map (some F.ub),.pointer (some ⟨F.pb,0,none⟩)] 88 (0,0))∧w'.heap[B7]?=some (.cells #[.int .i64 ro,.int .u32 (rs:Int)] 58 (0,0))∧w'.heap[w.heap.size]?=some (.cells (na n) 45 (0,0)))→(w'.cell? ⟨h,1,none⟩=some (.pointer (some ⟨F.mb,0,none⟩))∧w'.cell? ⟨h,2,none⟩=some (.slice (some ⟨g,off,none⟩) q cap))∧(w'.cell? ⟨B7,0,none⟩=some (.int .i64 ro)∧w'.cell? ⟨B7,1,none⟩=some (.int .u32 (rs:Int)))∧(w'.cell? ⟨w.heap.size,1,none⟩=some (.int .i64 n.f)∧w'.cell? ⟨w.heap.size,3,none⟩=some (.int .i64 (b:Int))∧(loadCellsFrom ⟨w.heap.size,8,none⟩ 0 mm9 #[]).run Tryz.prog w' = .ok (pp.row n.d) w')):=qh fun w' ⟨e1,e2,e3⟩=>⟨⟨cr e1 1 rfl,by have:=cr e1 2 rfl;rw [HEV.out,← HQL.out] at this;exact this⟩,⟨cr e2 0 rfl,cr e2 1 rfl⟩,⟨tt.cell_at (HR.out w' e3) 1 _ rfl,by rw [← HNB.out];exact tt.cell_at (HR.out w' e3) 3 _ rfl,HLD.out w' (HR.out w' e3)⟩⟩
  have HKP:Hid (∀ w1 w2:World,Did w1 w2 F F→(w1.heap[h]?=some (.cells #[.int .i64 c.co,.pointer (some ⟨F.mb,0,none⟩),F.ev,.map (some F.ub),.pointer (some ⟨F.pb,0,none⟩)] 88 (0,0))∧w1.heap[B7]?=some (.cells #[.int .i64 ro,.int .u32 (rs:Int)] 58 (0,0))∧w1.heap[w.heap.size]?=some (.cells (na n) 45 (0,0)))→(w2.heap[h]?=some (.cells #[.int .i64 c.co,.pointer (some ⟨F.mb,0,none⟩),F.ev,.map (some F.ub),.pointer (some ⟨F.pb,0,none⟩)] 88 (0,0))∧w2.heap[B7]?=some (.cells #[.int .i64 ro,.int .u32 (rs:Int)] 58 (0,0))∧w2.heap[w.heap.size]?=some (.cells (na n) 45 (0,0)))):=qh fun w1 w2 d ⟨e1,e2,e3⟩=>⟨d.heap e1 HOH.out,d.heap e2 (fun e=>by have:=HOL.out _ e;have:=HW7.out;have:=HG.out.size;omega),d.heap e3 (fun e=>by have:=HOL.out _ e;omega)⟩
  have HFX0:Hid (wX.heap[h]?=some (.cells #[.int .i64 c.co,.pointer (some ⟨F.mb,0,none⟩),F.ev,.map (some F.ub),.pointer (some ⟨F.pb,0,none⟩)] 88 (0,0))∧wX.heap[B7]?=some (.cells #[.int .i64 ro,.int .u32 (rs:Int)] 58 (0,0))∧wX.heap[w.heap.size]?=some (.cells (na n) 45 (0,0))):=qh ⟨(HA.out _ hgd).blk,h7,(hgd.block _ (lt_of HBX.out) (by simp)).trans HBX.out⟩
  have HGX:=qh hgd
  clear h7 hgd
  cases tk with
  | false=>
   obtain ⟨wM,hwM⟩:∃ wM,wM=wX:=⟨_,rfl⟩
   have HAM:Hid (HomeAt wM h c F { H with mm:=if false=true then H.mm.set b n.d else H.mm }):=qh (by rw [hwM];exact HA.out _ HGX.out)
   have HDM:Hid (Did wb wM F F):=qh (by rw [hwM];exact Did.of_grown F HGX.out)
   have HFM:Hid (wM.heap[h]?=some (.cells #[.int .i64 c.co,.pointer (some ⟨F.mb,0,none⟩),F.ev,.map (some F.ub),.pointer (some ⟨F.pb,0,none⟩)] 88 (0,0))∧wM.heap[B7]?=some (.cells #[.int .i64 ro,.int .u32 (rs:Int)] 58 (0,0))∧wM.heap[w.heap.size]?=some (.cells (na n) 45 (0,0))):=qh (by rw [hwM];exact HFX0.out)
   rw [← hwM]
   clear hwM
   go_wp2_with fail
   refine wp_region_held_drew (S:=fun w'=>w'.heap[h]?=some (.cells #[.int .i64 c.co,.pointer (some ⟨F.mb,0,none⟩),F.ev,.map (some F.ub),.pointer (some ⟨F.pb,0,none⟩)] 88 (0,0))∧w'.heap[B7]?=some (.cells #[.int .i64 ro,.int .u32 (rs:Int)] 58 (0,0))∧w'.heap[w.heap.size]?=some (.cells (na n) 45 (0,0))) (by kernel_rfl) ⟨HFM.out.1,HFM.out.2.1,HFM.out.2.2⟩ (fun hHeld=>?_)
   have hAd:=HAM.out.grown (tt.grown_drew (grown_refl wM none))
   have hDd:=HDM.out.trans (Did.of_grown F (tt.grown_drew (grown_refl wM none)))
   generalize wM.drew=wd3 at hAd hDd hHeld ⊢
   refine tl 0 ?_ rfl ?_ ?_ (tl 1 ?_ rfl ?_ ?_ (tl 2 ?_ rfl ?_ ?_ (tl 3 ?_ rfl ?_ ?_ (tl 4 ?_ rfl ?_ ?_ (tl 5 ?_ rfl ?_ ?_ (tl 6 ?_ rfl ?_ ?_ (tl 7 ?_ rfl ?_ ?_ ?_)))))))
   iterate 8 (rotate_left;(next=>(try simp only [lay]);((intro w0 hSw;obtain ⟨⟨hs0,hs1⟩,⟨hs2,hs3⟩,⟨hs4,hs5,hs6⟩⟩:=HKF.out w0 hSw;go_simp);try (with_reducible rfl)));next=>rfl)
   try simp only [lay]
   obtain ⟨hAs,hgs⟩:=hAd.setEnt HEV.out HBE.out ⟨ro,rs⟩ HI2.out
   obtain ⟨ws,hws⟩:∃ ws,(wd3.setCell ⟨g,off + b * 2,none⟩ (.int .i64 ro)).setCell ⟨g,off + b * 2 + 1,none⟩ (.int .u32 (rs:Int))=ws:=⟨_,rfl⟩
   obtain ⟨g',off',cap',hev',c0,c1,f0,f1⟩:=hAd.entCells HBE.out
   rw [HEV.out] at hev';cases hev'
   dsimp only at hAs hgs
   rw [hws] at hAs hgs
   have hd1:Did wd3 ws F F:=Did.of_own hgs fun i e=> .inr (.inl (by cases e;rw [HEV.out];rfl))
   have HK1:=qh (HKP.out _ _ hd1 hHeld)
   have HAS:=qh hAs
   have HDS:=qh (hDd.trans hd1)
   have HWS:=qh hws
   clear hAd hAs hgs hd1 hws hDd
   refine rd 8 rfl fun K hK=>?_
   go_simp
   rw [HWS.out]
   refine hK.out _ _ HK1.out (fun hHeld=>?_)
   clear hK K
   try simp only [lay]
   refine wpAnyH_done (by kernel_rfl) ?_ _
   clear hHeld
   obtain ⟨⟨k0,k1⟩,⟨k2,k3⟩,⟨k4,k5,k6⟩⟩:=HKF.out ws HK1.out
   clear k6
   go_wp2_with fail
   have HZ:=qh (tt.bare_na 8 (-1) n.f (b:Int) 0 0 false false)
   rw [← HZ.out]
   go_ret
   have HLW:w.heap.size < ws.heap.size:=lt_of HK1.out.2.2
   refine ⟨_,rfl,HAS.out.grown (grown_alloc (grown_refl _ _) _),nsl_one (heap_alloc_new _ _),((Did.of_grown F HG.out).trans HDS.out).trans (Did.of_grown F (grown_alloc (grown_refl _ _) _)),fun k hk=>?_⟩
   simp [Value.ownBlock] at hk
   omega
  | true=>
   go_wp2_with fail
   rw [HT9.out]
   refine wp_region_held_drew (S:=fun w'=>w'.heap[h]?=some (.cells #[.int .i64 c.co,.pointer (some ⟨F.mb,0,none⟩),F.ev,.map (some F.ub),.pointer (some ⟨F.pb,0,none⟩)] 88 (0,0))∧w'.heap[B7]?=some (.cells #[.int .i64 ro,.int .u32 (rs:Int)] 58 (0,0))∧w'.heap[w.heap.size]?=some (.cells (na n) 45 (0,0))) (by kernel_rfl) ⟨HFX0.out.1,HFX0.out.2.1,HFX0.out.2.2⟩ (fun hHeld=>?_)
   have hgx:=tt.grown_drew HGX.out
   generalize wX.drew=wd2 at hgx hHeld ⊢
   refine tl 0 ?_ rfl ?_ ?_ (tl 1 ?_ rfl ?_ ?_ (tl 2 ?_ rfl ?_ ?_ (tl 3 ?_ rfl ?_ ?_ (tl 4 ?_ rfl ?_ ?_ (tl 5 ?_ rfl ?_ ?_ (tl 6 ?_ rfl ?_ ?_ (tl 7 ?_ rfl ?_ ?_ ?_)))))))
   iterate 8 (rotate_left;(next=>(try simp only [lay]);((intro w0 hSw;obtain ⟨⟨hs0,hs1⟩,⟨hs2,hs3⟩,⟨hs4,hs5,hs6⟩⟩:=HKF.out w0 hSw;go_simp);try (with_reducible rfl)));next=>rfl)
   try simp only [lay]
   refine rd 8 rfl fun K hK=>?_
   go_simp
   (with_reducible refine (HSB.out _ hgx).mono ?_);rintro e wM ⟨rfl,hM,hgM⟩;have hDm:Did wd2 wM F F:=(Did.of_own hgM fun i e=> .inl e);have hMM:=setB_in HBM.out n.d;rw [hMM] at hM;have HAM:=qh ((HA.out _ hgx).setMem hM hgM HI1.out);have HDM:=qh ((Did.of_grown F hgx).trans hDm);have HFM:=qh (HKP.out _ _ hDm hHeld);clear hM hgM hDm hMM
   go_wp2_with fail
   refine hK.out _ _ HFM.out (fun hHeld=>?_)
   clear hK K
   try simp only [lay]
   refine wpAnyH_done (by kernel_rfl) ?_ _
   clear hHeld hgx
   go_wp2_with fail
   refine wp_region_held_drew (S:=fun w'=>w'.heap[h]?=some (.cells #[.int .i64 c.co,.pointer (some ⟨F.mb,0,none⟩),F.ev,.map (some F.ub),.pointer (some ⟨F.pb,0,none⟩)] 88 (0,0))∧w'.heap[B7]?=some (.cells #[.int .i64 ro,.int .u32 (rs:Int)] 58 (0,0))∧w'.heap[w.heap.size]?=some (.cells (na n) 45 (0,0))) (by kernel_rfl) ⟨HFM.out.1,HFM.out.2.1,HFM.out.2.2⟩ (fun hHeld=>?_)
   have hAd:=HAM.out.grown (tt.grown_drew (grown_refl wM none))
   have hDd:=HDM.out.trans (Did.of_grown F (tt.grown_drew (grown_refl wM none)))
   generalize wM.drew=wd3 at hAd hDd hHeld ⊢
   refine tl 0 ?_ rfl ?_ ?_ (tl 1 ?_ rfl ?_ ?_ (tl 2 ?_ rfl ?_ ?_ (tl 3 ?_ rfl ?_ ?_ (tl 4 ?_ rfl ?_ ?_ (tl 5 ?_ rfl ?_ ?_ (tl 6 ?_ rfl ?_ ?_ (tl 7 ?_ rfl ?_ ?_ ?_)))))))
   iterate 8 (rotate_left;(next=>(try simp only [lay]);((intro w0 hSw;obtain ⟨⟨hs0,hs1⟩,⟨hs2,hs3⟩,⟨hs4,hs5,hs6⟩⟩:=HKF.out w0 hSw;go_simp);try (with_reducible rfl)));next=>rfl)
   try simp only [lay]
   obtain ⟨hAs,hgs⟩:=hAd.setEnt HEV.out HBE.out ⟨ro,rs⟩ HI2.out
   obtain ⟨ws,hws⟩:∃ ws,(wd3.setCell ⟨g,off + b * 2,none⟩ (.int .i64 ro)).setCell ⟨g,off + b * 2 + 1,none⟩ (.int .u32 (rs:Int))=ws:=⟨_,rfl⟩
   obtain ⟨g',off',cap',hev',c0,c1,f0,f1⟩:=hAd.entCells HBE.out
   rw [HEV.out] at hev';cases hev'
   dsimp only at hAs hgs
   rw [hws] at hAs hgs
   have hd1:Did wd3 ws F F:=Did.of_own hgs fun i e=> .inr (.inl (by cases e;rw [HEV.out];rfl))
   have HK1:=qh (HKP.out _ _ hd1 hHeld)
   have HAS:=qh hAs
   have HDS:=qh (hDd.trans hd1)
   have HWS:=qh hws
   clear hAd hAs hgs hd1 hws hDd
   refine rd 8 rfl fun K hK=>?_
   go_simp
   rw [HWS.out]
   refine hK.out _ _ HK1.out (fun hHeld=>?_)
   clear hK K
   try simp only [lay]
   refine wpAnyH_done (by kernel_rfl) ?_ _
   clear hHeld
   obtain ⟨⟨k0,k1⟩,⟨k2,k3⟩,⟨k4,k5,k6⟩⟩:=HKF.out ws HK1.out
   clear k6
   go_wp2_with fail
   have HZ:=qh (tt.bare_na 8 (-1) n.f (b:Int) 0 0 false false)
   rw [← HZ.out]
   go_ret
   have HLW:w.heap.size < ws.heap.size:=lt_of HK1.out.2.2
   refine ⟨_,rfl,HAS.out.grown (grown_alloc (grown_refl _ _) _),nsl_one (heap_alloc_new _ _),((Did.of_grown F HG.out).trans HDS.out).trans (Did.of_grown F (grown_alloc (grown_refl _ _) _)),fun k hk=>?_⟩
   simp [Value.ownBlock] at hk
   omega
end
end Go.Proofs.YtenhdijbcdkfbaaGreatDoor.hh
namespace Go.Proofs.YtenhdijbcdkfbaaGreatDoor.hh
set_option linter.unusedVariables false
set_option linter.unusedSimpArgs false
set_option maxRecDepth 1000000
set_option maxHeartbeats 16000000
open Go Go.ChangeShapes Go.WideShapes Go.ChangeAt Go.RowKit
open Go.Proofs.YtenhdijbcdkfbaaGreatDoor.tt (Nt Cfg fits net bare zd usd uses coreOf ok_ends MapAt mput mdel ik NPool NSl Turn flat na nt zn grown_alloc grown_refl grown_trans tyne lt_of)
open Go.Proofs.YtenhdijbcdkfbaaGreatDoor.en (En gets back asked asks free ask_parts may_parts ea)
open Go.Proofs.YtenhdijbcdkfbaaGreatDoor.mm (wi wo ones wo_lt)
def calm (Q:Exit→Act→World→Prop):Exit→Act→World→Prop
 | .panic _,_,_=>False
 | e,a,w=>Q e a w
theorem wpIn_calm {F:Fence} {n:Nat} {P:Program} {c:Code} {Q:Exit→Act→World→Prop} {a:Act} {w:World} (h:c.wpIn F n P (calm Q) a w):c.wpIn F n P Q a w:=
 Code.wpIn_mono (Q:=calm Q) (fun e a w hq=>by cases e <;> first | exact hq | exact False.elim hq) h
theorem calm_ret {Q:Exit→Act→World→Prop} {a:Act} {w:World} (h:Q .ret a w):calm Q .ret a w:=h
theorem grown_put1 {a b:World} {g:Nat} (h:a.grownBy b none) (hg:a.heap.size ≤ g) {u:Value} {i:Nat}:a.grownBy (b.setCell ⟨g,i,none⟩ u) none:=
 ⟨h.os,h.tape,h.output,by have:=h.size;simp [World.setCell];omega,fun k hk hn=>(Below.heap_setCell _ _ _ _ (show k ≠ g by omega)).trans (h.block k hk hn)⟩
theorem put_one {w:World} {g:Nat} {a:Value} {t:TypeId} (h:w.heap[g]?=some (.cells #[a] t (0,0))) (u:Value):(w.setCell ⟨g,0,none⟩ u).heap[g]?=some (.cells #[u] t (0,0)):=by
 obtain ⟨cur',q1,q2,q3,q4⟩:=tt.heap_setCells g t [u] 0 w #[a] h (by simp)
 have e:w.setCell ⟨g,0,none⟩ u=w.setCells g 0 [u]:=rfl
 rw [e,q1]
 have h0:=q4 0 u rfl
 have:cur'=#[u]:=by
  apply Array.ext_getElem?
  intro i
  match i with
  | 0=>simpa using h0
  | i + 1=>rw [Array.getElem?_eq_none (by rw [q2];simp),Array.getElem?_eq_none (by simp)]
 rw [this]
section
variable {w:World} {h:Nat} {c:Cfg} {F:Ft} {H:Hm}
theorem begin_put (A:HomeAt w h c F H) (n:Nt) (hn:Asks c n) (h3:n.k=3):Calls Tryz.prog 47 #[.pointer (some ⟨h,0,none⟩),.agg (na n)] w fun e w'=>∃ v,e = .returned v ∧
  HomeAt w' h c F (begin1 H n).1∧NSl w' v (begin1 H n).2∧Did w w' F F∧∀ k,v.ownBlock=some k→w.heap.size ≤ k:=by
 obtain ⟨wb,hwb⟩:∃ wb,w.alloc (.cells (na n) 45)=wb:=⟨_,rfl⟩
 have hgb:w.grownBy wb none:=by rw [← hwb];exact grown_alloc (grown_refl _ _) _
 have HA:Hid (∀ w',wb.grownBy w' none→HomeAt w' h c F H):=qh fun w' h'=>A.grown (grown_trans hgb h')
 have hbx:wb.heap[w.heap.size]?=some (.cells (na n) 45 (0,0)):=by rw [← hwb];exact heap_alloc_new _ _
 have HR:Hid (∀ w':World,w'.heap[w.heap.size]?=some (.cells (na n) 45 (0,0))→w'.rangeAt w.heap.size 0 (nt n)):=qh fun w' h'=>tt.range_of h'
 have HBX:=qh hbx
 have HG:=qh hgb
 have k0:wb.cell? ⟨w.heap.size,0,none⟩=some (.int .u8 n.k):=tt.cell_at (HR.out _ hbx) 0 _ rfl
 have e3:(n.k == 3)=true:=by rw [h3];rfl
 have HQ:Hid (Calls Tryz.prog 74 #[.pointer (some ⟨h,0,none⟩),.agg (na n)] wb fun e w'=>∃ v,e = .returned v∧HomeAt w' h c F (begin1 H n).1∧NSl w' v (begin1 H n).2∧Did wb w' F F∧∀ k,v.ownBlock=some k→wb.heap.size ≤ k):=qh (by
  have:=back_any (HA.out _ (grown_refl _ _)) n hn h3 _ rfl
  unfold begin1
  rw [if_pos h3]
  exact this)
 clear A hbx hgb h3 hn
 refine (callsIn_wide (n:=9)).1 ?_
 refine callsIn_of_wp_marks Tryz.func47 rfl trivial ?_ rfl
 simp only [Tryz.ntmps47,List.size_toArray,List.length_cons,List.length_nil,Nat.reduceAdd,Nat.reduceSub,Array.replicate_succ,Array.replicate_zero,List.push_toArray,List.append_toArray,List.nil_append,List.cons_append]
 refine wpIn_calm ?_
 refine wpIn_wide.2 ?_
 go_wp2_with (first
  | ((with_reducible refine tt.load_nt n _ w.heap.size ?_ (HR.out _ HBX.out) ?_);(rfl))
  | (go_at_call 74;((with_reducible refine HQ.out.mono ?_);rintro e w1 ⟨v,rfl,hA1,hS1,hD1,hf1⟩;have HA1:=qh hA1;have HS1:=qh hS1;have HD1:=qh hD1;have HF1:=qh hf1;clear hA1 hS1 hD1 hf1)))
 exact calm_ret ⟨_,results_tmp rfl _ _ _,v,rfl,HA1.out,HS1.out,(Did.of_grown F HG.out).trans HD1.out,fun k hk=>Nat.le_trans HG.out.size (HF1.out k hk)⟩
theorem begin_now (A:HomeAt w h c F H) (n:Nt) (hn:Asks c n) (hT:mm.Tab w) (h3:n.k ≠ 3) (hw:(asked (enOf H n.b.toNat) n.k n.f).1=0):Calls Tryz.prog 47 #[.pointer (some ⟨h,0,none⟩),.agg (na n)] w fun e w'=>∃ v,e = .returned v ∧
  HomeAt w' h c F (begin1 H n).1∧NSl w' v (begin1 H n).2∧Did w w' F F∧∀ k,v.ownBlock=some k→w.heap.size ≤ k:=by
 have hk:n.k=1 ∨ n.k=2:=by rcases asks_kind hn with e | e | e <;> omega
 obtain ⟨hb0,hb⟩:=blk_lt hn.fits
 obtain ⟨b,hbn⟩:∃ b:Nat,n.b=(b:Int):=⟨n.b.toNat,by omega⟩
 have HBT:Hid (n.b.toNat=b):=qh (by omega)
 rw [HBT.out] at hb
 rw [HBT.out] at hw
 obtain ⟨wb,hwb⟩:∃ wb,w.alloc (.cells (na n) 45)=wb:=⟨_,rfl⟩
 have hgb:w.grownBy wb none:=by rw [← hwb];exact grown_alloc (grown_refl _ _) _
 have HA:Hid (∀ w',wb.grownBy w' none→HomeAt w' h c F H):=qh fun w' h'=>A.grown (grown_trans hgb h')
 have hbx:wb.heap[w.heap.size]?=some (.cells (na n) 45 (0,0)):=by rw [← hwb];exact heap_alloc_new _ _
 have HR:Hid (∀ w':World,w'.heap[w.heap.size]?=some (.cells (na n) 45 (0,0))→w'.rangeAt w.heap.size 0 (nt n)):=qh fun w' h'=>tt.range_of h'
 have HBX:=qh hbx
 have HG:=qh hgb
 have k0:wb.cell? ⟨w.heap.size,0,none⟩=some (.int .u8 n.k):=tt.cell_at (HR.out _ hbx) 0 _ rfl
 have e3:(n.k == 3)=false:=by simpa using h3
 have hbl:b < H.en.length:=by rw [A.inv.le];exact hb
 have hbj:b < H.jb.length:=by rw [A.inv.lj];exact hb
 have hes:(enOf H b).s < 4294967296:=by
  have:=(may_parts (o:=(enOf H b).o) (s:=(enOf H b).s) (ents_of A.inv b)).2.2.1;omega
 have HQ:Hid (∀ w',wb.grownBy w' none→_):=qh fun w' h'=>en.asked_any (enOf H b).o (enOf H b).s n.k n.f w' hes (mtab_grown hT (grown_trans hgb h'))
 have HGE:Hid (asked ⟨(enOf H b).o,(enOf H b).s⟩ n.k n.f=asked (enOf H b) n.k n.f):=qh rfl
 unfold en.told at HQ
 rw [HGE.out] at HQ
 obtain ⟨g,off,cap,hev,_⟩:=A.entCells hbl
 have HK:Hid (∀ w',wb.grownBy w' none→(w'.cell? ⟨h,2,none⟩=some (.slice (some ⟨g,off,none⟩) H.en.length cap))∧(w'.cell? ⟨g,off + b * 2,none⟩=some (.int .i64 (enOf H b).o)∧w'.cell? ⟨g,off + b * 2 + 1,none⟩=some (.int .u32 ((enOf H b).s:Int)))∧(w'.cell? ⟨w.heap.size,0,none⟩=some (.int .u8 n.k)∧w'.cell? ⟨w.heap.size,1,none⟩=some (.int .i64 n.f)∧w'.cell? ⟨w.heap.size,3,none⟩=some (.int .i64 (b:Int)))):=qh fun w' h'=>by
  have hA:=HA.out w' h'
  obtain ⟨g',off',cap',hev',e0,e1,_⟩:=hA.entCells hbl
  rw [hev] at hev';cases hev'
  have hr:=HR.out w' ((h'.block _ (lt_of hbx) (by simp)).trans hbx)
  exact ⟨hev ▸ hA.cells.2.2.1,⟨e0,e1⟩,⟨tt.cell_at hr 0 _ rfl,tt.cell_at hr 1 _ rfl,by rw [← hbn];exact tt.cell_at hr 3 _ rfl⟩⟩
 have HNB:=qh hbn
 have hlt:(b:Int) < (H.en.length:Int):=by omega
 have hle:(0:Int) ≤ (b:Int):=by omega
 obtain ⟨q,hq⟩:∃ q,q=H.en.length:=⟨_,rfl⟩
 rw [← hq] at hlt HK
 have HAN:Hid (∀ w',HomeAt w' h c F H→Calls Tryz.prog 71 #[.pointer (some ⟨h,0,none⟩),.int .i64 (b:Int),.agg #[.int .u8 n.k,.int .i64 n.f,.int .u32 0,.bool false,.int .u64 0]] w' fun e w2=>∃ v,e = .returned v∧HomeAt w2 h c F (begin1 H n).1∧NSl w2 v (begin1 H n).2∧Did w' w2 F F∧∀ k,v.ownBlock=some k→w'.heap.size ≤ k):=qh fun w' hA=>by
  have hj:JobOk c b ⟨n,0,false,false,0⟩:=⟨hn,hk,by show n.b=(b:Int);omega,(show (0:Nat) < 4294967296 by decide),⟨Int.le_refl _,(show (0:Int) < 18446744073709551616 by decide)⟩⟩
  have:=answer_any hA b hb ⟨n,0,false,false,0⟩ hj rfl
  unfold begin1
  rw [if_neg h3,HBT.out,if_pos hw]
  unfold answer
  have hjb:jbOf { H with jb:=H.jb.set b (some ⟨n,0,false,false,0⟩) } b=some ⟨n,0,false,false,0⟩:=get_jbOf (by show (H.jb.set b _)[b]?=_;rw [List.getElem?_set_self hbj])
  rw [hjb]
  simp only [List.set_set]
  exact this
 have HIB:=qh hb0
 clear A hbx hgb hb hbl hbj hes hev hq hbn hn hk h3 hT hb0
 generalize asked (enOf H b) n.k n.f=r at *
 obtain ⟨m,by1,re⟩:=r
 generalize enOf H b=eb at *
 obtain ⟨eo,es⟩:=eb
 dsimp only at *
 subst hw
 clear HNB HBT
 refine (callsIn_wide (n:=9)).1 ?_
 refine callsIn_of_wp_marks Tryz.func47 rfl trivial ?_ rfl
 simp only [Tryz.ntmps47,List.size_toArray,List.length_cons,List.length_nil,Nat.reduceAdd,Nat.reduceSub,Array.replicate_succ,Array.replicate_zero,List.push_toArray,List.append_toArray,List.nil_append,List.cons_append]
 refine wpIn_calm ?_
 refine wpIn_wide.2 ?_
 go_wp2_with fail
 refine wp_region_held_drew (S:=fun w'=>wb.grownBy w' none) (by kernel_rfl) (tt.grown_drew (grown_refl _ _)) (fun hHeld=>?_)
 generalize wb.drew=wd at hHeld ⊢
 refine tl 0 ?_ rfl ?_ ?_ (tl 1 ?_ rfl ?_ ?_ (tl 2 ?_ rfl ?_ ?_ (tl 3 ?_ rfl ?_ ?_ (tl 4 ?_ rfl ?_ ?_ (tl 5 ?_ rfl ?_ ?_ ?_)))))
 iterate 6 (rotate_left;(next=>(try simp only [lay]);((intro w0 hSw;obtain ⟨hs0,⟨hs1,hs2⟩,⟨hs3,hs4,hs5⟩⟩:=HK.out w0 hSw;go_simp);try (with_reducible rfl)));next=>rfl)
 try simp only [lay]
 refine tl 6 ?_ rfl ?_ ?_ (tl 7 ?_ rfl ?_ ?_ (tl 8 ?_ rfl ?_ ?_ (tl 9 ?_ rfl ?_ ?_ (tl 10 ?_ rfl ?_ ?_ (tl 11 ?_ rfl ?_ ?_ ?_)))))
 iterate 6 (rotate_left;(next=>(try simp only [lay]);((intro w0 hSw;obtain ⟨hs0,⟨hs1,hs2⟩,⟨hs3,hs4,hs5⟩⟩:=HK.out w0 hSw;go_simp);try (with_reducible rfl)));next=>rfl)
 try simp only [lay]
 have HD0:=qh hHeld
 refine wpAnyH_ready (rs:=[12,17]) (by kernel_rfl) (by simp) ?_
 refine ac rfl (fun K hK=>?_) (ac rfl (fun K hK=>?_) AllReadyH.nil)
 ·skip
  go_simp
  (with_reducible refine (HQ.out _ hHeld).mono ?_);rintro e wg ⟨rfl,hg5⟩;have HGG:=qh (grown_trans hHeld hg5)
  go_wp2_with fail
  refine hK.out _ _ HGG.out (fun hHeld=>?_)
  clear hK K
  try simp only [lay]
  refine tl 13 ?_ rfl ?_ ?_ (tl 14 ?_ rfl ?_ ?_ (tl 15 ?_ rfl ?_ ?_ (tl 16 ?_ rfl ?_ ?_ ?_)))
  iterate 4 (rotate_left;(next=>(try simp only [lay]);((intro w0 hSw;go_simp);try (with_reducible rfl)));next=>rfl)
  try simp only [lay]
  refine rd 17 rfl fun K hK=>?_
  go_simp
  refine hK.out _ _ (grown_alloc HGG.out _) (fun hHeld=>?_)
  clear hK K
  try simp only [lay]
  refine tl 18 ?_ rfl ?_ ?_ ?_
  (rotate_left;(next=>((intro w0 hSw;go_simp);try (with_reducible rfl)));next=>rfl)
  try simp only [lay]
  refine rd 19 rfl fun K hK=>?_
  go_simp
  refine hK.out _ _ (grown_alloc HGG.out _) (fun hHeld=>?_)
  clear hK K
  try simp only [lay]
  refine tl 20 ?_ rfl ?_ ?_ ?_
  (rotate_left;(next=>((intro w0 hSw;go_simp);try (with_reducible rfl)));next=>rfl)
  try simp only [lay]
  refine wpAnyH_done (by kernel_rfl) ?_ _
  clear hHeld
  obtain ⟨wX,hX⟩:∃ wX,wg.alloc (.cells #[.int .u8 by1] 5)=wX:=⟨_,rfl⟩
  have hgd:wb.grownBy wX none:=by rw [← hX];exact grown_alloc HGG.out _
  have h6:wX.heap[wg.heap.size]?=some (.cells #[.int .u8 by1] 5 (0,0)):=by rw [← hX];exact heap_alloc_new _ _
  have h6l:wb.heap.size ≤ wg.heap.size:=HGG.out.size
  rw [hX]
  obtain ⟨B6,hB⟩:∃ B,wg.heap.size=B:=⟨_,rfl⟩
  rw [hB] at h6 h6l ⊢
  clear hB hX HGG HD0
  have HA6:=qh (HA.out _ hgd)
  have HGD:=qh hgd
  have HB6:Hid (wX.heap[w.heap.size]?=some (.cells (na n) 45 (0,0))):=qh ((hgd.block _ (lt_of HBX.out) (by simp)).trans HBX.out)
  obtain ⟨_,_,f0,f1,f3⟩:=HK.out _ hgd
  have hl:w.heap.size < wX.heap.size:=lt_of HB6.out
  have hl2:¬ w.heap.size=wX.heap.size:=Nat.ne_of_lt hl
  have HQ2:Hid (∀ w',wX.grownBy w' none→_):=qh fun w' h'=>HAN.out w' (HA6.out.grown h')
  clear hgd h6 h6l
  go_wp2_with (go_at_call 71;((with_reducible refine (HQ2.out _ (grown_alloc (grown_refl _ _) _)).mono ?_);rintro e w1 ⟨v,rfl,hA1,hS1,hD1,hf1⟩;have HA1:=qh hA1;have HS1:=qh hS1;have HD1:=qh hD1;have HF1:=qh hf1;clear hA1 hS1 hD1 hf1))
  have HG1:Hid (w.grownBy (wX.alloc (.cells #[.int .u8 n.k,.int .i64 n.f,.int .u32 0,.bool false,.int .u64 0] 93)) none):=qh (grown_alloc (grown_trans HG.out HGD.out) _)
  exact calm_ret ⟨_,results_tmp rfl _ _ _,v,rfl,HA1.out,HS1.out,(Did.of_grown F HG1.out).trans HD1.out,fun k hk=>Nat.le_trans HG1.out.size (HF1.out k hk)⟩
 ·skip
  go_simp
  refine hK.out _ _ (grown_alloc HD0.out _) (fun hHeld=>?_)
  clear hK K
  try simp only [lay]
  refine rd 12 rfl fun K hK=>?_
  go_simp
  (with_reducible refine (HQ.out _ hHeld).mono ?_);rintro e wg ⟨rfl,hg5⟩;have HGG:=qh (grown_trans hHeld hg5);have HZ7:=qh ((hg5.block wd.heap.size (by simp) (by simp)).trans (heap_alloc_new _ _))
  go_wp2_with fail
  refine hK.out _ _ HGG.out (fun hHeld=>?_)
  clear hK K
  try simp only [lay]
  refine tl 13 ?_ rfl ?_ ?_ (tl 14 ?_ rfl ?_ ?_ (tl 15 ?_ rfl ?_ ?_ (tl 16 ?_ rfl ?_ ?_ (tl 18 ?_ rfl ?_ ?_ ?_))))
  iterate 5 (rotate_left;(next=>(try simp only [lay]);((intro w0 hSw;go_simp);try (with_reducible rfl)));next=>rfl)
  try simp only [lay]
  have z0:=cr HZ7.out 0 rfl
  have zf0:wg.frozen? ⟨wd.heap.size,0,none⟩=false:=by simp [World.frozen?,HZ7.out]
  refine rd 19 rfl fun K hK=>?_
  go_simp
  refine hK.out _ _ (grown_put1 HGG.out HD0.out.size) (fun hHeld=>?_)
  clear hK K
  try simp only [lay]
  refine tl 20 ?_ rfl ?_ ?_ ?_
  (rotate_left;(next=>((intro w0 hSw;go_simp);try (with_reducible rfl)));next=>rfl)
  try simp only [lay]
  refine wpAnyH_done (by kernel_rfl) ?_ _
  clear hHeld z0 zf0
  obtain ⟨wX,hX⟩:∃ wX,wg.setCell ⟨wd.heap.size,0,none⟩ (.int .u8 by1)=wX:=⟨_,rfl⟩
  have hgd:wb.grownBy wX none:=by rw [← hX];exact grown_put1 HGG.out HD0.out.size
  have h6:wX.heap[wd.heap.size]?=some (.cells #[.int .u8 by1] 5 (0,0)):=by rw [← hX];exact put_one HZ7.out _
  have h6l:wb.heap.size ≤ wd.heap.size:=HD0.out.size
  rw [hX]
  obtain ⟨B6,hB⟩:∃ B,wd.heap.size=B:=⟨_,rfl⟩
  rw [hB] at h6 h6l ⊢
  clear hB hX HGG HD0 HZ7
  have HA6:=qh (HA.out _ hgd)
  have HGD:=qh hgd
  have HB6:Hid (wX.heap[w.heap.size]?=some (.cells (na n) 45 (0,0))):=qh ((hgd.block _ (lt_of HBX.out) (by simp)).trans HBX.out)
  obtain ⟨_,_,f0,f1,f3⟩:=HK.out _ hgd
  have hl:w.heap.size < wX.heap.size:=lt_of HB6.out
  have hl2:¬ w.heap.size=wX.heap.size:=Nat.ne_of_lt hl
  have HQ2:Hid (∀ w',wX.grownBy w' none→_):=qh fun w' h'=>HAN.out w' (HA6.out.grown h')
  clear hgd h6 h6l
  go_wp2_with (go_at_call 71;((with_reducible refine (HQ2.out _ (grown_alloc (grown_refl _ _) _)).mono ?_);rintro e w1 ⟨v,rfl,hA1,hS1,hD1,hf1⟩;have HA1:=qh hA1;have HS1:=qh hS1;have HD1:=qh hD1;have HF1:=qh hf1;clear hA1 hS1 hD1 hf1))
  have HG1:Hid (w.grownBy (wX.alloc (.cells #[.int .u8 n.k,.int .i64 n.f,.int .u32 0,.bool false,.int .u64 0] 93)) none):=qh (grown_alloc (grown_trans HG.out HGD.out) _)
  exact calm_ret ⟨_,results_tmp rfl _ _ _,v,rfl,HA1.out,HS1.out,(Did.of_grown F HG1.out).trans HD1.out,fun k hk=>Nat.le_trans HG1.out.size (HF1.out k hk)⟩
end
end Go.Proofs.YtenhdijbcdkfbaaGreatDoor.hh
