/-
 What New of the document makes of a home: contract. No condition but what it names.
-/
import Derived.Test.YtenhdijbcdkfbaaGreatDoorTl
import Derived.Test.YtenhdijbcdkfbaaGreatDoorRhB
import Derived.Test.YtenhdijbcdkfbaaGreatDoorPr
import Derived.Test.YtenhdijbcdkfbaaGreatDoorPk
import Derived.Test.YtenhdijbcdkfbaaGreatDoorMf
import Derived.Test.YtenhdijbcdkfbaaGreatDoorHc
import Derived.Test.YtenhdijbcdkfbaaGreatDoorHd
namespace Go.Proofs.YtenhdijbcdkfbaaGreatDoor.hh
set_option linter.unusedVariables false
set_option linter.unusedSimpArgs false
set_option maxRecDepth 1000000
set_option maxHeartbeats 16000000
open Go Go.ChangeShapes Go.WideShapes Go.ChangeAt Go.RowKit
open Go.Proofs.YtenhdijbcdkfbaaGreatDoor.tt (Nt Cfg fits net bare zd usd uses coreOf ok_ends MapAt mput mdel ik NSl flat na nt zn grown_alloc grown_refl grown_trans tyne lt_of)
open Go.Proofs.YtenhdijbcdkfbaaGreatDoor.en (En gets back asked asks free ask_parts may_parts ea)
open Go.Proofs.YtenhdijbcdkfbaaGreatDoor.mm (wi wo ones wo_lt)
theorem infoJ:(Tryz.prog.info? 63).map (fun i=>(i.zero,i.size,i.bytes))=some (some (.agg (jt none).toArray),29,136):=by kernel_rfl
theorem zen_cellsR:(Value.agg (et zen).toArray).cells.size=2:=by first | kernel_rfl | simp [Value.cells,et]
theorem zj_cells:(Value.agg (jt none).toArray).cells.size=29:=by first | kernel_rfl | simp [Value.cells,jt_len]
theorem src_free (W:World) (g:Nat) (hg:W.heap[g]?=some (.cells #[.int .i64 (-1),.int .u32 0] 58 (0,0))):Src Tryz.prog 2 52 (.slice (some ⟨g,0,none⟩) 1 1) 1 (et free) W:=tt.src_one' W g _ 58 (et free) 2 Tryz.underlying52 hg rfl rfl (et_one free)
theorem src_job (W:World) (g:Nat) (hg:W.heap[g]?=some (.cells #[.bool false,.int .u8 0,.int .i64 0,.int .i64 0,.int .i64 0,.int .u64 0,.int .u8 0,.bool false,.bool false,.int .u32 0,.int .u32 0,.int .u32 0,.int .u32 0,.int .u32 0,.int .u32 0,.int .u32 0,.int .u32 0,.int .u32 0,.int .u32 0,.int .u32 0,.int .u32 0,.int .u32 0,.int .u32 0,.int .u32 0,.int .u32 0,.int .u32 0,.bool false,.bool false,.int .u64 0] 63 (0,0))):Src Tryz.prog 29 53 (.slice (some ⟨g,0,none⟩) 1 1) 1 (jt none) W:=tt.src_one' W g _ 63 (jt none) 29 Tryz.underlying53 hg rfl (jt_len _) (jt_one _)
structure RNew (w0 w:World) (q:Nat) (c:Cfg) (mb:Nat) (mv ev jv:Value) (ke kj:Nat):Prop where
 blk:w.heap[q]?=some (.cells (Fr.cells ⟨mb,mv,ev,jv,.slice none 0 0⟩ c) 55 (0,0))
 ent:tt.Sl w 58 2 ev ke (flat et (List.replicate ke free))
 job:tt.Sl w 63 29 jv kj (flat jt (List.replicate kj none))
 grown:w0.grownBy w none
 fresh:w0.heap.size ≤ q∧(∀ i,ev.ownBlock=some i→w0.heap.size ≤ i)∧(∀ i,jv.ownBlock=some i→w0.heap.size ≤ i)
section
variable {w0 w w2:World} {q:Nat} {c:Cfg} {mb:Nat} {mv ev jv v2:Value} {ke kj:Nat}
theorem RNew.lt (N:RNew w0 w q c mb mv ev jv ke kj):q < w.heap.size:=lt_of N.blk
theorem RNew.go (N:RNew w0 w q c mb mv ev jv ke kj) (g:w.grownBy w2 none):RNew w0 w2 q c mb mv ev jv ke kj:=
 ⟨(g.block q N.lt (by simp)).trans N.blk,N.ent.grown g,N.job.grown g,grown_trans N.grown g,N.fresh⟩
theorem setAt {cs:Array Value} {t:TypeId} (i:Nat) (v:Value) (hb:w.heap[q]?=some (.cells cs t (0,0))):(w.setCell ⟨q,i,none⟩ v).heap[q]?=some (.cells (cs.set! i v) t (0,0)):=by
 obtain ⟨hlt,hk⟩:=Array.getElem?_eq_some_iff.1 hb
 show (w.heap.modify q _)[q]?=_
 rw [Array.getElem?_eq_getElem (by rw [Array.size_modify];exact hlt),Array.getElem_modify_self,hk]
 rfl
theorem RNew.blkE (N:RNew w0 w q c mb mv ev jv ke kj) (g:w.grownBy w2 ev.ownBlock):w2.heap[q]?=some (.cells (Fr.cells ⟨mb,mv,ev,jv,.slice none 0 0⟩ c) 55 (0,0)):=
 (g.block q N.lt (fun e=>by obtain ⟨cur,hc⟩:=N.ent.type q e.symm;exact tyne N.blk hc (by decide) rfl)).trans N.blk
theorem RNew.blkJ (N:RNew w0 w q c mb mv ev jv ke kj) (g:w.grownBy w2 jv.ownBlock):w2.heap[q]?=some (.cells (Fr.cells ⟨mb,mv,ev,jv,.slice none 0 0⟩ c) 55 (0,0)):=
 (g.block q N.lt (fun e=>by obtain ⟨cur,hc⟩:=N.job.type q e.symm;exact tyne N.blk hc (by decide) rfl)).trans N.blk
theorem RNew.putE (N:RNew w0 w q c mb mv ev jv ke kj) (g:w.grownBy w2 ev.ownBlock) (hs:tt.Sl w2 58 2 v2 (ke + 1) (flat et (List.replicate ke free) ++ et free)) (nx:tt.Next w w2 ev v2):RNew w0 (w2.setCell ⟨q,9,none⟩ v2) q c mb mv v2 jv (ke + 1) kj:=by
 have fv:∀ i,v2.ownBlock=some i→w0.heap.size ≤ i:=fun i hi=>by
  rcases nx with e | e
  ·exact N.fresh.2.1 i (e ▸ hi)
  ·exact Nat.le_trans N.grown.size (e i hi)
 have hq:some q ≠ ev.ownBlock:=fun e=>by
  obtain ⟨cur,hc⟩:=N.ent.type q e.symm
  exact tyne N.blk hc (by decide) rfl
 have hb:w2.heap[q]?=some (.cells (Fr.cells ⟨mb,mv,ev,jv,.slice none 0 0⟩ c) 55 (0,0)):=(g.block q N.lt hq).trans N.blk
 have st:∀ i,i ≠ q→(w2.setCell ⟨q,9,none⟩ v2).heap[i]?=w2.heap[i]?:=fun i hi=>Below.heap_setCell _ _ _ i hi
 refine ⟨by rw [setAt 9 v2 hb];rfl,?_,?_,?_,⟨N.fresh.1,fv,N.fresh.2.2⟩⟩
 ·rw [show List.replicate (ke + 1) free=List.replicate ke free ++ [free] from List.replicate_succ',tt.flat_append,tt.flat_single]
  exact hs.of_block fun k hk=>st k (fun e=>by
   obtain ⟨cur,hc⟩:=hs.type k hk
   exact tyne hb hc (by decide) e.symm)
 ·exact N.job.of_block fun k hk=>by
   obtain ⟨cur,hc⟩:=N.job.type k hk
   refine (st k (fun e=>tyne N.blk hc (by decide) e.symm)).trans (g.block k (N.job.lt k hk) fun e=>?_)
   obtain ⟨cur2,hc2⟩:=N.ent.type k e.symm
   exact tyne hc hc2 (by decide) rfl
 ·exact ⟨g.os.trans N.grown.os,g.tape.trans N.grown.tape,g.output.trans N.grown.output,by have h1:=g.size;have h2:=N.grown.size;simp [World.setCell];omega,fun i hi hn=>(st i (by have:=N.fresh.1;omega)).trans ((g.block i (Nat.lt_of_lt_of_le hi N.grown.size) (fun e=>by have:=N.fresh.2.1 i e.symm;omega)).trans (N.grown.block i hi hn))⟩
theorem RNew.putJ (N:RNew w0 w q c mb mv ev jv ke kj) (g:w.grownBy w2 jv.ownBlock) (hs:tt.Sl w2 63 29 v2 (kj + 1) (flat jt (List.replicate kj none) ++ jt none)) (nx:tt.Next w w2 jv v2):RNew w0 (w2.setCell ⟨q,10,none⟩ v2) q c mb mv ev v2 ke (kj + 1):=by
 have fv:∀ i,v2.ownBlock=some i→w0.heap.size ≤ i:=fun i hi=>by
  rcases nx with e | e
  ·exact N.fresh.2.2 i (e ▸ hi)
  ·exact Nat.le_trans N.grown.size (e i hi)
 have hq:some q ≠ jv.ownBlock:=fun e=>by
  obtain ⟨cur,hc⟩:=N.job.type q e.symm
  exact tyne N.blk hc (by decide) rfl
 have hb:w2.heap[q]?=some (.cells (Fr.cells ⟨mb,mv,ev,jv,.slice none 0 0⟩ c) 55 (0,0)):=(g.block q N.lt hq).trans N.blk
 have st:∀ i,i ≠ q→(w2.setCell ⟨q,10,none⟩ v2).heap[i]?=w2.heap[i]?:=fun i hi=>Below.heap_setCell _ _ _ i hi
 refine ⟨by rw [setAt 10 v2 hb];rfl,?_,?_,?_,⟨N.fresh.1,N.fresh.2.1,fv⟩⟩
 ·exact N.ent.of_block fun k hk=>by
   obtain ⟨cur,hc⟩:=N.ent.type k hk
   refine (st k (fun e=>tyne N.blk hc (by decide) e.symm)).trans (g.block k (N.ent.lt k hk) fun e=>?_)
   obtain ⟨cur2,hc2⟩:=N.job.type k e.symm
   exact tyne hc hc2 (by decide) rfl
 ·rw [show List.replicate (kj + 1) (none:Option Jb)=List.replicate kj none ++ [none] from List.replicate_succ',tt.flat_append,tt.flat_single]
  exact hs.of_block fun k hk=>st k (fun e=>by
   obtain ⟨cur,hc⟩:=hs.type k hk
   exact tyne hb hc (by decide) e.symm)
 ·exact ⟨g.os.trans N.grown.os,g.tape.trans N.grown.tape,g.output.trans N.grown.output,by have h1:=g.size;have h2:=N.grown.size;simp [World.setCell];omega,fun i hi hn=>(st i (by have:=N.fresh.1;omega)).trans ((g.block i (Nat.lt_of_lt_of_le hi N.grown.size) (fun e=>by have:=N.fresh.2.2 i e.symm;omega)).trans (N.grown.block i hi hn))⟩
theorem RNew.done (N:RNew w0 w q c mb mv ev jv c.data.toNat c.data.toNat) {mm:List (List Int)} (M:pp.RMem w0 mb mv mm) (hm:c.may) (hl:mm.length=c.bl.toNat) (hr:∀ r ∈ mm,r.length=16) (hg:gs ≤ w0.heap.size) (lv:∀ i,mv.ownBlock=some i→gs ≤ i) :
  RefAt w q c ⟨mb,mv,ev,jv,.slice none 0 0⟩ (new c mm):=
 ⟨N.blk,rmem_of_block M (N.grown.block _ M.lt (by simp)) (fun k e=>by obtain ⟨_,hb⟩:=M.bl k e;exact N.grown.block k (lt_of hb) (by simp)),(by rw [show (new c mm).en.length=c.data.toNat from List.length_replicate];exact N.ent),(by rw [show (new c mm).jb.length=c.data.toNat from List.length_replicate];exact N.job),tt.Sl.nil _ _ _,new_inv c mm hm hl hr,fun i hi=>by
  rcases hi with e | e | e | e
  ·have:=N.fresh.1;omega
  ·exact lv i e
  ·have:=N.fresh.2.1 i e;omega
  ·have:=N.fresh.2.2 i e;omega⟩
end
section
variable {w:World} {c:Cfg} {mb:Nat} {mv:Value} {mm:List (List Int)}
theorem rnew_any (M:pp.RMem w mb mv mm) (hm:c.may) (hl:mm.length=c.bl.toNat) (hr:∀ r ∈ mm,r.length=16) (hg:gs ≤ w.heap.size) (lv:∀ i,mv.ownBlock=some i→gs ≤ i):Calls Tryz.prog 9 #[.agg c.cells,.pointer (some ⟨mb,0,none⟩)] w fun e w'=>∃ q ev jv,e = .returned (.pointer (some ⟨q,0,none⟩)) ∧
  RefAt w' q c ⟨mb,mv,ev,jv,.slice none 0 0⟩ (new c mm)∧w.grownBy w' none∧w.heap.size ≤ q∧(∀ i,ev.ownBlock=some i→w.heap.size ≤ i)∧(∀ i,jv.ownBlock=some i→w.heap.size ≤ i):=by
 have hd:0 ≤ c.data∧c.data ≤ 256:=by
  have h1:=data_le hm
  have h2:=M.few
  have h3:=hm.2
  omega
 obtain ⟨n,hn⟩:∃ n:Nat,c.data=(n:Int):=⟨c.data.toNat,by omega⟩
 have HDT:Hid (c.data.toNat=n):=qh (by omega)
 have HD:Hid (∀ w',_):=qh fun w'=>tt.rdata_any c w' hm.fits
 rw [hn] at HD
 have HN:Hid (n ≤ 256):=qh (by omega)
 obtain ⟨wb,hwb⟩:∃ wb,w.alloc (.cells c.cells 23)=wb:=⟨_,rfl⟩
 have hgb:w.grownBy wb none:=by rw [← hwb];exact grown_alloc (grown_refl _ _) _
 have hMb:pp.RMem wb mb mv mm:=rmem_of_block M (hgb.block _ M.lt (by simp)) (fun k e=>by obtain ⟨_,hb⟩:=M.bl k e;exact hgb.block k (lt_of hb) (by simp))
 have HDN:=qh fun (w':World) (q:Nat) (ev jv:Value) (N:RNew wb w' q c mb mv ev jv c.data.toNat c.data.toNat)=>N.done hMb hm hl hr (Nat.le_trans hg hgb.size) lv
 have hbx:wb.heap[w.heap.size]?=some (.cells c.cells 23 (0,0)):=by rw [← hwb];exact heap_alloc_new _ _
 have HCA:Hid (∀ w':World,wb.grownBy w' none→tt.CfgAt w' w.heap.size c):=qh fun w' h'=>by
  have hb':=(h'.block _ (lt_of hbx) (by simp)).trans hbx
  constructor <;> simp [World.cell?,hb',Cfg.cells]
 have HG:=qh hgb
 clear hd hn hbx hgb M hMb hm hl hr hg lv
 obtain ⟨c0,c1,c2,c3,c4,c5,c6,c7⟩:=HCA.out _ (grown_refl _ _)
 unfold Cfg.cells at HD hwb
 unfold Cfg.cells
 go_enter Tryz.func9,Tryz.ntmps9
 go_wp2_with fail
 obtain ⟨q,hq⟩:∃ q,wb.heap.size=q:=⟨_,rfl⟩
 obtain ⟨wz,hwz⟩:∃ x,wb.alloc (.cells (Fr.cells ⟨mb,mv,.slice none 0 0,.slice none 0 0,.slice none 0 0⟩ c) 55)=x:=⟨_,rfl⟩
 have HN0:Hid (RNew wb wz q c mb mv (.slice none 0 0) (.slice none 0 0) 0 0):=qh ⟨by rw [← hwz,← hq];exact heap_alloc_new _ _,tt.Sl.nil _ _ _,tt.Sl.nil _ _ _,by rw [← hwz];exact grown_alloc (grown_refl _ _) _,⟨by rw [← hq];exact Nat.le_refl _,(fun i e=>by cases e),(fun i e=>by cases e)⟩⟩
 unfold Fr.cells at hwz
 rw [hwz,hq]
 clear hwz hq hwb c0 c1 c2 c3 c4 c5 c6 c7
 obtain ⟨i0,hi,hz0,hz1,hz2⟩:=info_parts infoEn
 obtain ⟨i1,hi1,hy0,hy1,hy2⟩:=info_parts infoJ
 have HEF:Hid (et free=[.int .i64 (-1),.int .u32 0]):=qh rfl
 go_loopw [6] (fun i wq=>∃ (k:Nat) (ev jv:Value),k ≤ n∧i = .int .i64 (k:Int)∧RNew wb wq q c mb mv ev jv k k) (fun i _=>n - (intOf i).toNat)
 case atStart=>exact ⟨0,_,_,Nat.zero_le _,rfl,HN0.out⟩
 case round=>
  obtain ⟨k,ev,jv,hk,rfl,hN⟩:=hrel
  have HNK:=qh hN
  obtain ⟨ae,ce,rfl⟩:=hN.ent.form
  obtain ⟨aj,cj,rfl⟩:=hN.job.form
  clear hN
  obtain ⟨c0,c1,c2,c3,c4,c5,c6,c7⟩:=HCA.out _ HNK.out.grown
  by_cases hlk:k < n
  ·have hlt:(k:Int) < (n:Int):=by omega
   have hlb:(k:Int) ≤ 256:=by have:=HN.out;omega
   go_wp2_with (first
    | (go_at_call 33;((with_reducible refine (HD.out _).mono ?_);rintro e w1 ⟨rfl,hg1⟩;have HN1:=qh (HNK.out.go hg1);have c9:=cr HN1.out.blk 9 rfl;clear hg1 c0 c1 c2 c3 c4 c5 c6 c7))
    | ((with_reducible refine tt.append_sl 52 58 2 i0 (.agg (et zen).toArray) 16 _ _ Tryz.underlying52 hi hz0 hz1 hz2 zen_cellsR (.slice ae k ce) k (flat et (List.replicate k free)) ?_ (HN1.out.go (grown_alloc (grown_refl _ _) _)).ent (.slice (some ⟨w1.heap.size,0,none⟩) 1 1) 1 (et free) ?_ (src_free _ _ (heap_alloc_new _ _)) ?_ ?_ ?_);(rfl);(rfl);(have:=HN.out;unfold maxLen;omega);(have:=HN.out;omega);(intro v2 w2 hsl2 hgr2 hnx2;have HN2:=qh ((HN1.out.go (grown_alloc (grown_refl _ _) _)).putE hgr2 hsl2 hnx2);have hb2:=(HN1.out.go (grown_alloc (grown_refl _ _) _)).blkE hgr2;have c92:=cr hb2 9 rfl;have f92:w2.frozen? ⟨q,9,none⟩=false:=(by simp [World.frozen?,hb2]);obtain ⟨ae2,ce2,rfl⟩:=hsl2.form;have c103:=cr HN2.out.blk 10 rfl;clear hsl2 hgr2 hnx2 hb2 c9))
    | ((with_reducible refine tt.append_sl 53 63 29 i1 (.agg (jt none).toArray) 136 _ _ Tryz.underlying53 hi1 hy0 hy1 hy2 zj_cells (.slice aj k cj) k (flat jt (List.replicate k none)) ?_ (HN2.out.go (grown_alloc (grown_refl _ _) _)).job (.slice (some ⟨w2.heap.size,0,none⟩) 1 1) 1 (jt none) ?_ (src_job _ _ (by have h:=heap_alloc_new (w2.setCell ⟨q,9,none⟩ (.slice ae2 (k + 1) ce2)) (.cells #[.bool false,.int .u8 0,.int .i64 0,.int .i64 0,.int .i64 0,.int .u64 0,.int .u8 0,.bool false,.bool false,.int .u32 0,.int .u32 0,.int .u32 0,.int .u32 0,.int .u32 0,.int .u32 0,.int .u32 0,.int .u32 0,.int .u32 0,.int .u32 0,.int .u32 0,.int .u32 0,.int .u32 0,.int .u32 0,.int .u32 0,.int .u32 0,.int .u32 0,.bool false,.bool false,.int .u64 0] 63);simpa [World.setCell] using h)) ?_ ?_ ?_);(rfl);(rfl);(have:=HN.out;unfold maxLen;omega);(have:=HN.out;omega);(intro v4 w4 hsl4 hgr4 hnx4;have HN4:=qh ((HN2.out.go (grown_alloc (grown_refl _ _) _)).putJ hgr4 hsl4 hnx4);have hb4:=(HN2.out.go (grown_alloc (grown_refl _ _) _)).blkJ hgr4;have c104:=cr hb4 10 rfl;have f104:w4.frozen? ⟨q,10,none⟩=false:=(by simp [World.frozen?,hb4]);obtain ⟨aj4,cj4,rfl⟩:=hsl4.form;clear hsl4 hgr4 hnx4 hb4 c103)))
   go_roundw
   case rel=>exact ⟨k + 1,_,_,by omega,by go_num,HN4.out⟩
   case measure=>simp [intOf];omega
  ·have hge:¬ (k:Int) < (n:Int):=by omega
   obtain rfl:k=n:=by omega
   go_wp2_with (go_at_call 33;((with_reducible refine (HD.out _).mono ?_);rintro e w1 ⟨rfl,hg1⟩;have HN1:=qh (HNK.out.go hg1);clear hg1))
   go_ret
   refine ⟨q,_,_,rfl,HDN.out _ q _ _ (by rw [HDT.out];exact HN1.out),grown_trans HG.out HN1.out.grown,Nat.le_trans HG.out.size HN1.out.fresh.1,fun i e=>Nat.le_trans HG.out.size (HN1.out.fresh.2.1 i e),fun i e=>Nat.le_trans HG.out.size (HN1.out.fresh.2.2 i e)⟩
end
end Go.Proofs.YtenhdijbcdkfbaaGreatDoor.hh
