/-
 What a near waits for, has ready; its lines, its backs: contracts. Conditions: as NlA names them.
-/
import Derived.Test.YtcoimipgilkmbaaGreatDoorTl
import Derived.Test.YtcoimipgilkmbaaGreatDoorNlC
import Derived.Deep.CutRange
namespace Go.Proofs.YtcoimipgilkmbaaGreatDoor.nl
set_option linter.unusedVariables false
set_option linter.unusedSimpArgs false
set_option maxRecDepth 1000000
set_option maxHeartbeats 16000000
open Go Go.ChangeShapes Go.WideShapes Go.ChangeAt Go.RowKit Go.Shelf
open Go.Proofs.YtcoimipgilkmbaaGreatDoor.nr
open Go.Proofs.YtcoimipgilkmbaaGreatDoor.tt (Cfg Nt na nt zn bare zd fits row tyne lt_of U Tab TabK grown_refl grown_trans grown_alloc grown_setCells grown_drew grown_drewN yes)
open Go.Proofs.YtcoimipgilkmbaaGreatDoor.kk (Ln St zl la ln cfind cdrop cuse cgoes cwrite cturn cput setAt setOf live fF Shp Cac Kept)
open Go.Proofs.YtcoimipgilkmbaaGreatDoor.bk (Bk rem kills puts putE fd fl Nd Rg dead fresh BkAt)
open Go.Proofs.YtcoimipgilkmbaaGreatDoor.mrk (Ms rdS wrS meets addE Dom MkAt)
open Go.Proofs.YtcoimipgilkmbaaGreatDoor.de (Dl sT gE rF aD LAt)
open Go.Proofs.YtcoimipgilkmbaaGreatDoor.oo (ref)
theorem namedN:∃ (t:TypeId) (m:Nat),Hid (Op.load 37=Op.load t∧Op.store 37=Op.store t)∧(∀ w,(isAgg t).run Tryz.prog w = .ok true w)∧(∀ w,(sizeOf t).run Tryz.prog w = .ok m w) ∧
  (∀ (g o:Nat) (n:Nt) (w:World),w.rangeAt g o (nt n)→(loadCellsFrom ⟨g,o,none⟩ 0 m #[]).run Tryz.prog w = .ok (na n) w)∧(∀ n:Nt,(na n).size=m) ∧
  (∀ (g o:Nat) (n:Nt) (w:World),w.there g o 24→(storeCells ⟨g,o,none⟩ (na n).toList 0).run Tryz.prog w = .ok () (w.setCells g o (nt n))):=
 ⟨37,24,qh ⟨rfl,rfl⟩,Tryz.isAgg37,Tryz.sizeOf37,fun g o s w h=>by
  have:=run_loadCells_list (P:=Tryz.prog) w ⟨g,o,none⟩ (nt s) (fun j v hv=>by rw [tt.add_lit];exact h j v hv)
  simpa [loadCells,tt.nt_len,na] using this,tt.na_size,fun g o s w h=>by
  have:=run_storeCells_cells (P:=Tryz.prog) g o (nt s) 0 w (fun j hj=>by simpa using (h j (by rw [tt.nt_len] at hj;exact hj)).1) (fun j hj=>by simpa using (h j (by rw [tt.nt_len] at hj;exact hj)).2) (tt.nt_one s)
  simpa [na] using this⟩
section
variable {w:World} {L:LL} {P:Pm} {k:Nr} (h:LN w L P k) (I:Inv P k)
include I
theorem shown_zn:decide (shown k=zn)=!k.wt:=by
 unfold shown
 cases hw:k.wt
 ·simp
 ·rw [if_pos rfl]
  have:=(I.ak hw).2
  have hne:k.ask ≠ zn:=fun e=>by
   rw [e] at this
   have h0:zn.k=0:=rfl
   omega
  simp [hne]
include h
theorem waits_any:Calls Tryz.prog 22 #[.pointer (some ⟨L.q,0,none⟩)] w fun e w'=>e = .returned (.tuple #[.agg (na (shown k)),.bool k.wt])∧w.grownBy w' none:=by
 have hg0:w.grownBy (w.alloc (.cells (na zn) 37)) none:=grown_alloc (grown_refl _ _) _
 have HB:Hid ((w.alloc (.cells (na zn) 37)).heap[w.heap.size]?=some (.cells (na zn) 37 (0,0))):=qh (heap_alloc_new _ _)
 have HG:=qh hg0
 have hq:∀ W,(binOp .neq 37 (.agg (na (shown k))) (.agg (na zn))).run Tryz.prog W = .ok (.bool k.wt) W:=fun W=>by rw [tt.q31n,shown_zn I];simp
 have hr0:(w.alloc (.cells (na zn) 37)).drew.rangeAt L.q 6 (nt (shown k)):=(h.grown (grown_trans hg0 (grown_drew (grown_refl _ _)))).cask
 obtain ⟨a,ha⟩:∃ a,shown k=a:=⟨_,rfl⟩
 obtain ⟨wt,hw⟩:∃ x,k.wt=x:=⟨_,rfl⟩
 rw [ha] at hq hr0
 rw [hw] at hq
 rw [ha,hw]
 obtain ⟨W0,hW0⟩:∃ W,w.alloc (.cells (na zn) 37)=W:=⟨_,rfl⟩
 rw [hW0] at hr0 HB HG
 rw [zn_na] at hW0 hq
 have hb0:W0.drew.heap[w.heap.size]?=some (.cells (na zn) 37 (0,0)):=HB.out
 have hne:L.q ≠ w.heap.size:=by have:=h.lt (any_q L);omega
 have hr1:(W0.drew.setCells w.heap.size 0 (nt a)).rangeAt L.q 6 (nt a):=tt.range_grown hr0 (grown_setCells _ _ _ _) (by simpa using hne)
 have HR0:=qh hr0
 have HR1:=qh hr1
 have HD:=qh (tt.grown_new (grown_trans HG.out (grown_drew (grown_refl _ _))) (Nat.le_refl _) (grown_setCells W0.drew w.heap.size 0 (nt a)))
 have hF:Hid ((W0.drew.setCells w.heap.size 0 (nt a)).rangeAt w.heap.size 0 (nt a)):=qh (tt.range_of (t:=37) (filled hb0 (by rw [tt.na_size,tt.nt_len])))
 obtain ⟨t,nn,HT,hagg,hsize,hld,hsz,hst⟩:=namedN
 have hst2:=hst _ 0 a _ (there_at hb0 (n:=24) (by rw [tt.na_size];exact Nat.le_refl _))
 have hsz2:=hsz a
 have hld2:=hld L.q 6 a
 clear h I ha hw hst hld hsz hr0 hr1 hb0 hne HB
 go_enter Tryz.func22,Tryz.ntmps22
 go_upto_region 3 with fail
 rw [HT.out.1,HT.out.2]
 refine wp_region_held_drew (S:=fun w'=>w'.rangeAt L.q 6 (nt a)) (by kernel_rfl) HR0.out (fun hHeld=>?_)
 refine tl 0 ?_ rfl ?_ ?_ (tl 1 ?_ rfl ?_ ?_ (tl 2 ?_ rfl ?_ ?_ (tl 3 ?_ rfl ?_ ?_ (tl 4 ?_ rfl ?_ ?_ ?_))))
 iterate 5 (rotate_left;(next=>(try simp only [lay]);((intro w0 hSw;have hl0:=hld2 _ hSw;go_simp);try (with_reducible rfl)));next=>rfl)
 try simp only [lay]
 refine tl 5 ?_ rfl ?_ ?_ (tl 6 ?_ rfl ?_ ?_ (tl 7 ?_ rfl ?_ ?_ (tl 8 ?_ rfl ?_ ?_ (tl 9 ?_ rfl ?_ ?_ ?_))))
 iterate 5 (rotate_left;(next=>(try simp only [lay]);((intro w0 hSw;have hl0:=hld2 _ hSw;go_simp);try (with_reducible rfl)));next=>rfl)
 try simp only [lay]
 refine rd 10 rfl fun K hK=>?_
 go_simp
 refine hK.out _ _ HR1.out (fun hHeld2=>?_)
 clear hK K
 try simp only [lay]
 refine tl 11 ?_ rfl ?_ ?_ ?_
 (rotate_left;(next=>((intro w0 hSw;have hl0:=hld2 _ hSw;go_simp);try (with_reducible rfl)));next=>rfl)
 try simp only [lay]
 refine wpAnyH_done (by kernel_rfl) ?_ _
 go_wp2_with fail
 exact ret_nt2 rfl (x:=a) (g:=w.heap.size) rfl rfl hF.out ⟨rfl,HD.out⟩
end
theorem infoB:(Tryz.prog.info? 35).map (·.size)=some 16:=by kernel_rfl
section
variable {w:World} {ops:Array Oper} {rest:List Oper} {a:Act} {Q:Exit→Act→World→Prop} {dst:Option Tmp} {ty:TypeId} {pos:String} {after:Array Edge}
theorem load_b (d:List Int) (hd:d.length=16) (x:Tmp) (g o:Nat) (hx:a.eval (.tmp x) = .pointer (some ⟨g,o,none⟩)) (hr:w.rangeAt g o (d.map U)) (h:wpList Tryz.prog ops Q rest (a.put dst (.agg (row d))) w):wpList Tryz.prog ops Q (⟨dst,.load 35 (.tmp x),ty,pos,after,none⟩ :: rest) a w:=
 wpList_load_mid rfl 35 (.tmp x) rfl g o hx (d.map U) _ hr Tryz.underlying35 rfl (by rw [List.length_map,hd];exact infoB) h
theorem store_b (d:List Int) (hd:d.length=16) (x y:Tmp) (g o:Nat) (hx:a.eval (.tmp x) = .pointer (some ⟨g,o,none⟩)) (hy:a.eval (.tmp y) = .agg (row d)) (ht:w.there g o 16) (h:wpList Tryz.prog ops Q rest (a.put dst undef) (w.setCells g o (d.map U))):wpList Tryz.prog ops Q (⟨dst,.store 35 (.tmp x) (.tmp y),ty,pos,after,none⟩ :: rest) a w:=by
 have hs:(row d).size=16:=by simp [tt.row,hd]
 refine wpList_store_mid rfl 35 (.tmp x) (.tmp y) rfl g o (row d) hx hy (by rw [hs];exact ht) (by rw [hs];exact infoB) (all_oneCell_toArray (fun v hv=>by obtain ⟨x,_,rfl⟩:=List.mem_map.1 hv;rfl)) ?_
 exact h
theorem load_o (n:Nt) (x:Tmp) (g o:Nat) (hx:a.eval (.tmp x) = .pointer (some ⟨g,o,none⟩)) (hr:w.rangeAt g o (nt n)) (h:wpList Tryz.prog ops Q rest (a.put dst (.agg (na n))) w):wpList Tryz.prog ops Q (⟨dst,.load 37 (.tmp x),ty,pos,after,none⟩ :: rest) a w:=
 wpList_load_mid rfl 37 (.tmp x) rfl g o hx (nt n) _ hr Tryz.underlying37 rfl (tt.info31' n) h
theorem store_o (n:Nt) (x y:Tmp) (g o:Nat) (hx:a.eval (.tmp x) = .pointer (some ⟨g,o,none⟩)) (hy:a.eval (.tmp y) = .agg (na n)) (ht:w.there g o 24) (h:wpList Tryz.prog ops Q rest (a.put dst undef) (w.setCells g o (nt n))):wpList Tryz.prog ops Q (⟨dst,.store 37 (.tmp x) (.tmp y),ty,pos,after,none⟩ :: rest) a w:=by
 refine wpList_store_mid rfl 37 (.tmp x) (.tmp y) rfl g o (na n) hx hy (by rw [tt.na_size];exact ht) (tt.info31a n) (tt.na_one n) ?_
 exact h
end
theorem put_ask {P:Pm} {L:LL} {W:World} {a b:Nt} {t:TypeId} (h:W.heap[L.q]?=some (.cells (lc P L a) t (0,0))):(W.setCells L.q 6 (nt b)).heap[L.q]?=some (.cells (lc P L b) t (0,0)):=by
 obtain ⟨cur,h1,h2,h3,h4⟩:=tt.heap_setCells L.q t (nt b) 6 W (lc P L a) h (by rw [lc_size,tt.nt_len];decide)
 rw [h1]
 have:cur=lc P L b:=by
  apply Array.ext
  ·rw [h2,lc_size,lc_size]
  ·intro i hi hi2
   rw [lc_size] at hi2
   have e:cur[i]?=(lc P L b)[i]?:=by
    by_cases h6:i < 6
    ·rw [h3 i (.inl h6),lc_lo _ _ _ h6,lc_lo _ _ _ h6]
    ·obtain ⟨v,hv⟩:∃ v,(nt b)[i - 6]?=some v:=⟨_,List.getElem?_eq_getElem (by rw [tt.nt_len];omega)⟩
     have:=h4 (i - 6) _ hv
     rw [show 6 + (i - 6)=i by omega] at this
     rw [this,← hv,show i=6 + (i - 6) by omega,lc_ask _ _ _ (by omega),na,List.getElem?_toArray,show 6 + (i - 6) - 6=i - 6 by omega]
   rw [Array.getElem?_eq_getElem hi,Array.getElem?_eq_getElem (by rw [lc_size];exact hi2)] at e
   exact Option.some.inj e
 rw [this]
theorem put_st {P:Pm} {L:LL} {W:World} {a:Nt} {t:TypeId} (x:Int) (h:W.heap[L.q]?=some (.cells (lc P L a) t (0,0))):(W.setCell ⟨L.q,10,none⟩ (.int .u64 x)).heap[L.q]?=some (.cells (lc P L { a with st:=x }) t (0,0)):=by
 obtain ⟨hlt,hk⟩:=Array.getElem?_eq_some_iff.1 h
 show (W.heap.modify L.q _)[L.q]?=_
 rw [Array.getElem?_eq_getElem (by rw [Array.size_modify];exact hlt),Array.getElem_modify_self,hk]
 simp [lc,na,nt]
end Go.Proofs.YtcoimipgilkmbaaGreatDoor.nl
