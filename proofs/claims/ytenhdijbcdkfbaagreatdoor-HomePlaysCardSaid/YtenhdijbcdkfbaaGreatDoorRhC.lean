/-
 What the document's Ready answers of a note that doesn't fit, or is to a core: contract. No condition.
-/
import Derived.Test.YtenhdijbcdkfbaaGreatDoorTl
import Derived.Test.YtenhdijbcdkfbaaGreatDoorRhB
import Derived.Test.YtenhdijbcdkfbaaGreatDoorNg
namespace Go.Proofs.YtenhdijbcdkfbaaGreatDoor.hh
set_option linter.unusedVariables false
set_option linter.unusedSimpArgs false
set_option maxRecDepth 1000000
set_option maxHeartbeats 16000000
open Go Go.ChangeShapes Go.WideShapes Go.ChangeAt Go.RowKit
open Go.Proofs.YtenhdijbcdkfbaaGreatDoor.tt (Nt Cfg fits net bare zd usd uses coreOf ok_ends MapAt mput mdel ik flat na nt zn grown_alloc grown_refl grown_trans tyne lt_of)
open Go.Proofs.YtenhdijbcdkfbaaGreatDoor.en (En gets back asked asks free ask_parts may_parts ea)
open Go.Proofs.YtenhdijbcdkfbaaGreatDoor.mm (wi wo ones wo_lt)
theorem namedC:∃ (t:TypeId) (m:Nat),Hid (Op.load 23=Op.load t)∧(∀ w,(isAgg t).run Tryz.prog w = .ok true w)∧(∀ w,(sizeOf t).run Tryz.prog w = .ok m w) ∧
  ∀ (g:Nat) (c:Cfg) (w:World),tt.CfgAt w g c→(loadCellsFrom ⟨g,0,none⟩ 0 m #[]).run Tryz.prog w = .ok c.cells w:=
 ⟨23,8,qh rfl,Tryz.isAgg23,Tryz.sizeOf23,fun g c w h=>by
  have hr:w.rangeAt g 0 c.cells.toList:=fun j v hv=>by
   obtain ⟨c0,c1,c2,c3,c4,c5,c6,c7⟩:=h
   rw [Nat.zero_add]
   match j,hv with
   | 0,hv=>cases hv;exact c0
   | 1,hv=>cases hv;exact c1
   | 2,hv=>cases hv;exact c2
   | 3,hv=>cases hv;exact c3
   | 4,hv=>cases hv;exact c4
   | 5,hv=>cases hv;exact c5
   | 6,hv=>cases hv;exact c6
   | 7,hv=>cases hv;exact c7
   | j + 8,hv=>simp [Cfg.cells] at hv
  have:=run_loadCells_list (P:=Tryz.prog) w ⟨g,0,none⟩ c.cells.toList (fun j v hv=>by rw [tt.add_lit];exact hr j v hv)
  simp only [loadCells] at this
  exact this⟩
section
variable {w:World} {h:Nat} {c:Cfg} {F:Fr} {H:Hm}
theorem rready_a (A:RefAt w h c F H) (n:Nt) (hf:¬ fits c n):Calls Tryz.prog 11 #[.pointer (some ⟨h,0,none⟩),.agg (na n)] w fun e w'=>e = .returned (.int .i64 (ready c H n))∧w.grownBy w' none:=by
 obtain ⟨wb,hwb⟩:∃ wb,w.alloc (.cells (na n) 45)=wb:=⟨_,rfl⟩
 have hgb:w.grownBy wb none:=by rw [← hwb];exact grown_alloc (grown_refl _ _) _
 have HA:Hid (∀ w',wb.grownBy w' none→RefAt w' h c F H):=qh fun w' h'=>A.grown (grown_trans hgb h')
 obtain ⟨t',mm,HTT,hagg,hsize,hld⟩:=tt.named
 obtain ⟨tc,mc,HTC,haggc,hsizec,hldc⟩:=namedC
 have hbx:wb.heap[w.heap.size]?=some (.cells (na n) 45 (0,0)):=by rw [← hwb];exact heap_alloc_new _ _
 have HR:Hid (∀ w',wb.grownBy w' none→w'.rangeAt w.heap.size 0 (nt n)):=qh fun w' h=>tt.range_grown (tt.range_of hbx) h (by simp)
 have HK:Hid (∀ w',wb.grownBy w' none→(loadCellsFrom ⟨h,0,none⟩ 0 mc #[]).run Tryz.prog w' = .ok c.cells w'∧(loadCellsFrom ⟨w.heap.size,0,none⟩ 0 mm #[]).run Tryz.prog w' = .ok (na n) w'∧w'.cell? ⟨w.heap.size,2,none⟩=some (.int .i64 n.t)):=qh fun w' h'=>⟨hldc _ _ _ (HA.out w' h').plan,hld _ _ _ (HR.out w' h'),tt.cell_at (HR.out w' h') 2 _ rfl⟩
 have HF:Hid (∀ w':World,Calls Tryz.prog 37 #[.agg c.cells,.agg (na n)] w' _):=qh fun w'=>tt.rfits_any c n w' A.inv.may
 have HG:=qh hgb
 rw [decide_eq_false hf] at HF
 have hr:ready c H n=2:=by unfold ready;rw [if_pos (.inl hf)]
 rw [hr]
 clear hr hf A hgb hbx hld hldc
 go_enter Tryz.func11,Tryz.ntmps11
 go_wp2_with fail
 rw [HTT.out,HTC.out]
 refine wp_region_held_drew (S:=fun w'=>wb.grownBy w' none) (by kernel_rfl) (tt.grown_drew (grown_refl _ _)) (fun hHeld=>?_)
 generalize wb.drew=wd at hHeld ⊢
 refine tl 0 ?_ rfl ?_ ?_ (tl 1 ?_ rfl ?_ ?_ (tl 2 ?_ rfl ?_ ?_ (tl 3 ?_ rfl ?_ ?_ (tl 4 ?_ rfl ?_ ?_ ?_))))
 iterate 5 (rotate_left;(next=>(try simp only [lay]);((intro w0 hSw;obtain ⟨hs1,hs2,hs3⟩:=HK.out w0 hSw;go_simp);try (with_reducible rfl)));next=>rfl)
 try simp only [lay]
 refine rd 5 rfl fun K hK=>?_
 go_simp
 (with_reducible refine (HF.out _).mono ?_);rintro e w5 ⟨rfl,hg5⟩
 go_wp2_with fail
 refine hK.out _ _ (grown_trans hHeld hg5) (fun hHeld=>?_)
 clear hK K
 try simp only [lay]
 refine tl 6 ?_ rfl ?_ ?_ (tl 7 ?_ rfl ?_ ?_ ?_)
 iterate 2 (rotate_left;(next=>(try simp only [lay]);((intro w0 hSw;go_simp);try (with_reducible rfl)));next=>rfl)
 try simp only [lay]
 refine tu 8 rfl ?_
 try simp only [lay]
 refine tu 9 rfl ?_
 try simp only [lay]
 refine tu 10 rfl ?_
 try simp only [lay]
 refine tl 11 ?_ rfl ?_ ?_ ?_
 (rotate_left;(next=>((intro w0 hSw;go_simp);try (with_reducible rfl)));next=>rfl)
 try simp only [lay]
 refine wpAnyH_done (by kernel_rfl) ?_ _
 have HE:=qh hHeld
 go_wp2_with fail
 go_ret
 exact ⟨rfl,grown_trans HG.out HE.out⟩
theorem rready_b (A:RefAt w h c F H) (n:Nt) (hf:fits c n) (ht:n.t ≠ -1):Calls Tryz.prog 11 #[.pointer (some ⟨h,0,none⟩),.agg (na n)] w fun e w'=>e = .returned (.int .i64 (ready c H n))∧w.grownBy w' none:=by
 obtain ⟨wb,hwb⟩:∃ wb,w.alloc (.cells (na n) 45)=wb:=⟨_,rfl⟩
 have hgb:w.grownBy wb none:=by rw [← hwb];exact grown_alloc (grown_refl _ _) _
 have HA:Hid (∀ w',wb.grownBy w' none→RefAt w' h c F H):=qh fun w' h'=>A.grown (grown_trans hgb h')
 obtain ⟨t',mm,HTT,hagg,hsize,hld⟩:=tt.named
 obtain ⟨tc,mc,HTC,haggc,hsizec,hldc⟩:=namedC
 have hbx:wb.heap[w.heap.size]?=some (.cells (na n) 45 (0,0)):=by rw [← hwb];exact heap_alloc_new _ _
 have HR:Hid (∀ w',wb.grownBy w' none→w'.rangeAt w.heap.size 0 (nt n)):=qh fun w' h=>tt.range_grown (tt.range_of hbx) h (by simp)
 have HK:Hid (∀ w',wb.grownBy w' none→(loadCellsFrom ⟨h,0,none⟩ 0 mc #[]).run Tryz.prog w' = .ok c.cells w'∧(loadCellsFrom ⟨w.heap.size,0,none⟩ 0 mm #[]).run Tryz.prog w' = .ok (na n) w'∧w'.cell? ⟨w.heap.size,2,none⟩=some (.int .i64 n.t)):=qh fun w' h'=>⟨hldc _ _ _ (HA.out w' h').plan,hld _ _ _ (HR.out w' h'),tt.cell_at (HR.out w' h') 2 _ rfl⟩
 have HF:Hid (∀ w':World,Calls Tryz.prog 37 #[.agg c.cells,.agg (na n)] w' _):=qh fun w'=>tt.rfits_any c n w' A.inv.may
 have HG:=qh hgb
 rw [decide_eq_true hf] at HF
 have hr:ready c H n=2:=by unfold ready;rw [if_pos (.inr ht)]
 have e1:(n.t != -1)=true:=by simpa using ht
 rw [hr]
 clear hr hf A hgb hbx hld hldc ht
 go_enter Tryz.func11,Tryz.ntmps11
 go_wp2_with fail
 rw [HTT.out,HTC.out]
 refine wp_region_held_drew (S:=fun w'=>wb.grownBy w' none) (by kernel_rfl) (tt.grown_drew (grown_refl _ _)) (fun hHeld=>?_)
 generalize wb.drew=wd at hHeld ⊢
 refine tl 0 ?_ rfl ?_ ?_ (tl 1 ?_ rfl ?_ ?_ (tl 2 ?_ rfl ?_ ?_ (tl 3 ?_ rfl ?_ ?_ (tl 4 ?_ rfl ?_ ?_ ?_))))
 iterate 5 (rotate_left;(next=>(try simp only [lay]);((intro w0 hSw;obtain ⟨hs1,hs2,hs3⟩:=HK.out w0 hSw;go_simp);try (with_reducible rfl)));next=>rfl)
 try simp only [lay]
 refine rd 5 rfl fun K hK=>?_
 go_simp
 (with_reducible refine (HF.out _).mono ?_);rintro e w5 ⟨rfl,hg5⟩
 go_wp2_with fail
 refine hK.out _ _ (grown_trans hHeld hg5) (fun hHeld=>?_)
 clear hK K
 try simp only [lay]
 refine tl 6 ?_ rfl ?_ ?_ (tl 7 ?_ rfl ?_ ?_ (tl 8 ?_ rfl ?_ ?_ (tl 9 ?_ rfl ?_ ?_ (tl 10 ?_ rfl ?_ ?_ (tl 11 ?_ rfl ?_ ?_ ?_)))))
 iterate 6 (rotate_left;(next=>(try simp only [lay]);((intro w0 hSw;obtain ⟨hs1,hs2,hs3⟩:=HK.out w0 hSw;go_simp);try (with_reducible rfl)));next=>rfl)
 try simp only [lay]
 refine wpAnyH_done (by kernel_rfl) ?_ _
 have HE:=qh hHeld
 go_wp2_with fail
 go_ret
 exact ⟨rfl,grown_trans HG.out HE.out⟩
end
end Go.Proofs.YtenhdijbcdkfbaaGreatDoor.hh
