/-
 What Ready of a home answers: contract. Condition: the table of kinds lies in its variable as the program's text has it.
-/
import Derived.Test.YtenhdijbcdkfbaaGreatDoorTl
import Derived.Test.YtenhdijbcdkfbaaGreatDoorHc
namespace Go.Proofs.YtenhdijbcdkfbaaGreatDoor.hh
set_option linter.unusedVariables false
set_option linter.unusedSimpArgs false
set_option maxRecDepth 1000000
set_option maxHeartbeats 16000000
open Go Go.ChangeShapes Go.WideShapes Go.ChangeAt Go.RowKit
open Go.Proofs.YtenhdijbcdkfbaaGreatDoor.tt (Nt Cfg fits net bare zd usd uses coreOf ok_ends MapAt mput mdel ik NPool NSl Turn flat na nt zn grown_alloc grown_refl grown_trans tyne lt_of)
open Go.Proofs.YtenhdijbcdkfbaaGreatDoor.en (En gets back asked asks free ask_parts may_parts ea)
open Go.Proofs.YtenhdijbcdkfbaaGreatDoor.mm (wi wo ones wo_lt)
section
variable {w:World} {h:Nat} {c:Cfg} {F:Ft} {H:Hm}
theorem ready_bad (A:HomeAt w h c F H) (hK:tt.TabK w) (n:Nt) (hf:¬ (fits c n∧n.t=-1)):Calls Tryz.prog 10 #[.pointer (some ⟨h,0,none⟩),.agg (na n)] w fun e w'=>e = .returned (.int .i64 2)∧w.grownBy w' none:=by
 obtain ⟨wb,hwb⟩:∃ wb,w.alloc (.cells (na n) 45)=wb:=⟨_,rfl⟩
 have hgb:w.grownBy wb none:=by rw [← hwb];exact grown_alloc (grown_refl _ _) _
 have HA:Hid (∀ w',wb.grownBy w' none→HomeAt w' h c F H):=qh fun w' h'=>A.grown (grown_trans hgb h')
 have hbx:wb.heap[w.heap.size]?=some (.cells (na n) 45 (0,0)):=by rw [← hwb];exact heap_alloc_new _ _
 have HR:Hid (∀ w',wb.grownBy w' none→w'.rangeAt w.heap.size 0 (nt n)):=qh fun w' h=>tt.range_grown (tt.range_of hbx) h (by simp)
 have HM:Hid (∀ w',wb.grownBy w' none→_):=qh fun w' h'=>hfits_any (HA.out w' h') ((hK.grown hgb).grown h') n
 have HG:=qh hgb
 have HL:Hid (h < w.heap.size):=qh A.lt
 have HX:Hid (w.heap.size < wb.heap.size):=qh (lt_of hbx)
 rw [decide_eq_false hf] at HM
 clear A hK hgb hbx hf
 go_enter Tryz.func10,Tryz.ntmps10
 go_wp2_with (first
  | ((with_reducible refine tt.load_nt n _ w.heap.size ?_ (HR.out _ (grown_refl _ _)) ?_);(rfl))
  | (go_at_call 34;((with_reducible refine (HM.out _ (grown_refl _ _)).mono ?_);rintro e w1 ⟨rfl,hg1⟩;have HG1:=qh hg1;clear hg1)))
 go_ret
 exact ⟨rfl,grown_trans HG.out HG1.out⟩
theorem ready_9_t (A:HomeAt w h c F H) (hK:tt.TabK w) (n:Nt) (hf:fits c n∧n.t=-1) (a0 a1:Int) (a2:Nat) (a3:Bool) (a4:Int) (is:Bool) (hx:askOr H n.b.toNat=#[.int .u8 a0,.int .i64 a1,.int .u32 (a2:Int),.bool a3,.int .u64 a4]) (hi:(jbOf H n.b.toNat).isSome=is) (hk:n.k=9) (hm:a2 < 4294967296) (hh:mm.ha a2 n.f=true):Calls Tryz.prog 10 #[.pointer (some ⟨h,0,none⟩),.agg (na n)] w fun e w'=>e = .returned (.int .i64 0)∧w.grownBy w' none:=by
 obtain ⟨wb,hwb⟩:∃ wb,w.alloc (.cells (na n) 45)=wb:=⟨_,rfl⟩
 have hgb:w.grownBy wb none:=by rw [← hwb];exact grown_alloc (grown_refl _ _) _
 have HA:Hid (∀ w',wb.grownBy w' none→HomeAt w' h c F H):=qh fun w' h'=>A.grown (grown_trans hgb h')
 have hbx:wb.heap[w.heap.size]?=some (.cells (na n) 45 (0,0)):=by rw [← hwb];exact heap_alloc_new _ _
 have HR:Hid (∀ w',wb.grownBy w' none→w'.rangeAt w.heap.size 0 (nt n)):=qh fun w' h=>tt.range_grown (tt.range_of hbx) h (by simp)
 have HM:Hid (∀ w',wb.grownBy w' none→_):=qh fun w' h'=>hfits_any (HA.out w' h') ((hK.grown hgb).grown h') n
 have HG:=qh hgb
 have HL:Hid (h < w.heap.size):=qh A.lt
 have HX:Hid (w.heap.size < wb.heap.size):=qh (lt_of hbx)
 rw [decide_eq_true hf] at HM
 have HK:Hid (∀ w',wb.grownBy w' none→(w'.cell? ⟨h,0,none⟩=some (.int .i64 c.co)∧w'.cell? ⟨h,3,none⟩=some (.map (some F.ub))∧w'.cell? ⟨h,4,none⟩=some (.pointer (some ⟨F.pb,0,none⟩)))∧(w'.cell? ⟨w.heap.size,0,none⟩=some (.int .u8 n.k)∧w'.cell? ⟨w.heap.size,1,none⟩=some (.int .i64 n.f)∧w'.cell? ⟨w.heap.size,3,none⟩=some (.int .i64 n.b))∧(Instr.lookup 86 (.map (some F.ub)) (.int .i64 n.b) true).run Tryz.prog w' = .ok (.tuple #[.agg #[.int .u8 a0,.int .i64 a1,.int .u32 (a2:Int),.bool a3,.int .u64 a4],.bool is]) w'):=qh fun w' h'=>by
  have hA:=HA.out w' h'
  have hb:=(blk_lt hf.1).1
  refine ⟨⟨hA.cells.1,hA.cells.2.2.2.1,hA.cells.2.2.2.2⟩,⟨tt.cell_at (HR.out w' h') 0 _ rfl,tt.cell_at (HR.out w' h') 1 _ rfl,tt.cell_at (HR.out w' h') 3 _ rfl⟩,?_⟩
  have:=hA.look n.b.toNat
  rw [Int.toNat_of_nonneg hb,hx,hi] at this
  exact this
 have e9:(n.k == 9)=true:=by rw [hk];rfl
 have HQ:Hid (∀ w,_):=qh fun w=>mm.has_any a2 n.f w hm
 rw [hh] at HQ
 clear hk hm hh
 have HHX:=qh hx
 have HHI:=qh hi
 clear A hK hgb hbx hf hx hi
 go_enter Tryz.func10,Tryz.ntmps10
 go_wp2_with (first
  | ((with_reducible refine tt.load_nt n _ w.heap.size ?_ (HR.out _ (grown_refl _ _)) ?_);(rfl))
  | (go_at_call 34;((with_reducible refine (HM.out _ (grown_refl _ _)).mono ?_);rintro e w1 ⟨rfl,hg1⟩;have HG1:=qh hg1;clear hg1)))
 refine wp_region_held_drew (S:=fun w'=>wb.grownBy w' none) (by kernel_rfl) (tt.grown_drew HG1.out) (fun hHeld=>?_)
 generalize w1.drew=wd at hHeld ⊢
 have HD:=qh hHeld
 refine tl 0 ?_ rfl ?_ ?_ (tl 1 ?_ rfl ?_ ?_ (tl 2 ?_ rfl ?_ ?_ (tl 3 ?_ rfl ?_ ?_ (tl 4 ?_ rfl ?_ ?_ ?_))))
 iterate 5 (rotate_left;(next=>(try simp only [lay]);((intro w0 hSw;obtain ⟨⟨hs0,hs1,hs2⟩,⟨hs3,hs4,hs5⟩,hs6⟩:=HK.out w0 hSw;go_simp);try (with_reducible rfl)));next=>rfl)
 try simp only [lay]
 refine tl 5 ?_ rfl ?_ ?_ (tl 6 ?_ rfl ?_ ?_ (tl 7 ?_ rfl ?_ ?_ (tl 8 ?_ rfl ?_ ?_ (tl 9 ?_ rfl ?_ ?_ ?_))))
 iterate 5 (rotate_left;(next=>(try simp only [lay]);((intro w0 hSw;obtain ⟨⟨hs0,hs1,hs2⟩,⟨hs3,hs4,hs5⟩,hs6⟩:=HK.out w0 hSw;go_simp);try (with_reducible rfl)));next=>rfl)
 try simp only [lay]
 refine rd 10 rfl fun K hK=>?_
 go_simp
 refine hK.out _ _ (grown_alloc hHeld _) (fun hHeld=>?_)
 clear hK K
 try simp only [lay]
 refine rd 11 rfl fun K hK=>?_
 go_simp
 refine hK.out _ _ (grown_alloc HD.out _) (fun hHeld=>?_)
 clear hK K
 try simp only [lay]
 refine tl 12 ?_ rfl ?_ ?_ ?_
 (rotate_left;(next=>((intro w0 hSw;go_simp);try (with_reducible rfl)));next=>rfl)
 try simp only [lay]
 refine wpAnyH_done (by kernel_rfl) ?_ _
 obtain ⟨⟨f0,f1,f2⟩,⟨f3,f4,f5⟩,f6⟩:=HK.out wd HD.out
 have hlt:w.heap.size < wd.heap.size:=Nat.lt_of_lt_of_le HX.out HD.out.size
 have hne:¬ w.heap.size=wd.heap.size:=Nat.ne_of_lt hlt
 have hht:h < wd.heap.size:=Nat.lt_trans HL.out hlt
 have hhe:¬ h=wd.heap.size:=Nat.ne_of_lt hht
 go_wp2_with (go_at_call 35;((with_reducible refine (HQ.out _).mono ?_);rintro e w5 ⟨rfl,rfl⟩))
 go_ret
 exact ⟨rfl,grown_trans HG.out (grown_alloc HD.out _)⟩
theorem ready_9_f (A:HomeAt w h c F H) (hK:tt.TabK w) (n:Nt) (hf:fits c n∧n.t=-1) (a0 a1:Int) (a2:Nat) (a3:Bool) (a4:Int) (is:Bool) (hx:askOr H n.b.toNat=#[.int .u8 a0,.int .i64 a1,.int .u32 (a2:Int),.bool a3,.int .u64 a4]) (hi:(jbOf H n.b.toNat).isSome=is) (hk:n.k=9) (hm:a2 < 4294967296) (hh:mm.ha a2 n.f=false):Calls Tryz.prog 10 #[.pointer (some ⟨h,0,none⟩),.agg (na n)] w fun e w'=>e = .returned (.int .i64 8)∧w.grownBy w' none:=by
 obtain ⟨wb,hwb⟩:∃ wb,w.alloc (.cells (na n) 45)=wb:=⟨_,rfl⟩
 have hgb:w.grownBy wb none:=by rw [← hwb];exact grown_alloc (grown_refl _ _) _
 have HA:Hid (∀ w',wb.grownBy w' none→HomeAt w' h c F H):=qh fun w' h'=>A.grown (grown_trans hgb h')
 have hbx:wb.heap[w.heap.size]?=some (.cells (na n) 45 (0,0)):=by rw [← hwb];exact heap_alloc_new _ _
 have HR:Hid (∀ w',wb.grownBy w' none→w'.rangeAt w.heap.size 0 (nt n)):=qh fun w' h=>tt.range_grown (tt.range_of hbx) h (by simp)
 have HM:Hid (∀ w',wb.grownBy w' none→_):=qh fun w' h'=>hfits_any (HA.out w' h') ((hK.grown hgb).grown h') n
 have HG:=qh hgb
 have HL:Hid (h < w.heap.size):=qh A.lt
 have HX:Hid (w.heap.size < wb.heap.size):=qh (lt_of hbx)
 rw [decide_eq_true hf] at HM
 have HK:Hid (∀ w',wb.grownBy w' none→(w'.cell? ⟨h,0,none⟩=some (.int .i64 c.co)∧w'.cell? ⟨h,3,none⟩=some (.map (some F.ub))∧w'.cell? ⟨h,4,none⟩=some (.pointer (some ⟨F.pb,0,none⟩)))∧(w'.cell? ⟨w.heap.size,0,none⟩=some (.int .u8 n.k)∧w'.cell? ⟨w.heap.size,1,none⟩=some (.int .i64 n.f)∧w'.cell? ⟨w.heap.size,3,none⟩=some (.int .i64 n.b))∧(Instr.lookup 86 (.map (some F.ub)) (.int .i64 n.b) true).run Tryz.prog w' = .ok (.tuple #[.agg #[.int .u8 a0,.int .i64 a1,.int .u32 (a2:Int),.bool a3,.int .u64 a4],.bool is]) w'):=qh fun w' h'=>by
  have hA:=HA.out w' h'
  have hb:=(blk_lt hf.1).1
  refine ⟨⟨hA.cells.1,hA.cells.2.2.2.1,hA.cells.2.2.2.2⟩,⟨tt.cell_at (HR.out w' h') 0 _ rfl,tt.cell_at (HR.out w' h') 1 _ rfl,tt.cell_at (HR.out w' h') 3 _ rfl⟩,?_⟩
  have:=hA.look n.b.toNat
  rw [Int.toNat_of_nonneg hb,hx,hi] at this
  exact this
 have e9:(n.k == 9)=true:=by rw [hk];rfl
 have HQ:Hid (∀ w,_):=qh fun w=>mm.has_any a2 n.f w hm
 rw [hh] at HQ
 clear hk hm hh
 have HHX:=qh hx
 have HHI:=qh hi
 clear A hK hgb hbx hf hx hi
 go_enter Tryz.func10,Tryz.ntmps10
 go_wp2_with (first
  | ((with_reducible refine tt.load_nt n _ w.heap.size ?_ (HR.out _ (grown_refl _ _)) ?_);(rfl))
  | (go_at_call 34;((with_reducible refine (HM.out _ (grown_refl _ _)).mono ?_);rintro e w1 ⟨rfl,hg1⟩;have HG1:=qh hg1;clear hg1)))
 refine wp_region_held_drew (S:=fun w'=>wb.grownBy w' none) (by kernel_rfl) (tt.grown_drew HG1.out) (fun hHeld=>?_)
 generalize w1.drew=wd at hHeld ⊢
 have HD:=qh hHeld
 refine tl 0 ?_ rfl ?_ ?_ (tl 1 ?_ rfl ?_ ?_ (tl 2 ?_ rfl ?_ ?_ (tl 3 ?_ rfl ?_ ?_ (tl 4 ?_ rfl ?_ ?_ ?_))))
 iterate 5 (rotate_left;(next=>(try simp only [lay]);((intro w0 hSw;obtain ⟨⟨hs0,hs1,hs2⟩,⟨hs3,hs4,hs5⟩,hs6⟩:=HK.out w0 hSw;go_simp);try (with_reducible rfl)));next=>rfl)
 try simp only [lay]
 refine tl 5 ?_ rfl ?_ ?_ (tl 6 ?_ rfl ?_ ?_ (tl 7 ?_ rfl ?_ ?_ (tl 8 ?_ rfl ?_ ?_ (tl 9 ?_ rfl ?_ ?_ ?_))))
 iterate 5 (rotate_left;(next=>(try simp only [lay]);((intro w0 hSw;obtain ⟨⟨hs0,hs1,hs2⟩,⟨hs3,hs4,hs5⟩,hs6⟩:=HK.out w0 hSw;go_simp);try (with_reducible rfl)));next=>rfl)
 try simp only [lay]
 refine rd 10 rfl fun K hK=>?_
 go_simp
 refine hK.out _ _ (grown_alloc hHeld _) (fun hHeld=>?_)
 clear hK K
 try simp only [lay]
 refine rd 11 rfl fun K hK=>?_
 go_simp
 refine hK.out _ _ (grown_alloc HD.out _) (fun hHeld=>?_)
 clear hK K
 try simp only [lay]
 refine tl 12 ?_ rfl ?_ ?_ ?_
 (rotate_left;(next=>((intro w0 hSw;go_simp);try (with_reducible rfl)));next=>rfl)
 try simp only [lay]
 refine wpAnyH_done (by kernel_rfl) ?_ _
 obtain ⟨⟨f0,f1,f2⟩,⟨f3,f4,f5⟩,f6⟩:=HK.out wd HD.out
 have hlt:w.heap.size < wd.heap.size:=Nat.lt_of_lt_of_le HX.out HD.out.size
 have hne:¬ w.heap.size=wd.heap.size:=Nat.ne_of_lt hlt
 have hht:h < wd.heap.size:=Nat.lt_trans HL.out hlt
 have hhe:¬ h=wd.heap.size:=Nat.ne_of_lt hht
 go_wp2_with (go_at_call 35;((with_reducible refine (HQ.out _).mono ?_);rintro e w5 ⟨rfl,rfl⟩))
 go_ret
 exact ⟨rfl,grown_trans HG.out (grown_alloc HD.out _)⟩
theorem ready_10_t (A:HomeAt w h c F H) (hK:tt.TabK w) (n:Nt) (hf:fits c n∧n.t=-1) (a0 a1:Int) (a2:Nat) (a3:Bool) (a4:Int) (is:Bool) (hx:askOr H n.b.toNat=#[.int .u8 a0,.int .i64 a1,.int .u32 (a2:Int),.bool a3,.int .u64 a4]) (hi:(jbOf H n.b.toNat).isSome=is) (hk:n.k=10) (hm:a2 < 4294967296) (hh:mm.ha a2 n.f=true):Calls Tryz.prog 10 #[.pointer (some ⟨h,0,none⟩),.agg (na n)] w fun e w'=>e = .returned (.int .i64 0)∧w.grownBy w' none:=by
 obtain ⟨wb,hwb⟩:∃ wb,w.alloc (.cells (na n) 45)=wb:=⟨_,rfl⟩
 have hgb:w.grownBy wb none:=by rw [← hwb];exact grown_alloc (grown_refl _ _) _
 have HA:Hid (∀ w',wb.grownBy w' none→HomeAt w' h c F H):=qh fun w' h'=>A.grown (grown_trans hgb h')
 have hbx:wb.heap[w.heap.size]?=some (.cells (na n) 45 (0,0)):=by rw [← hwb];exact heap_alloc_new _ _
 have HR:Hid (∀ w',wb.grownBy w' none→w'.rangeAt w.heap.size 0 (nt n)):=qh fun w' h=>tt.range_grown (tt.range_of hbx) h (by simp)
 have HM:Hid (∀ w',wb.grownBy w' none→_):=qh fun w' h'=>hfits_any (HA.out w' h') ((hK.grown hgb).grown h') n
 have HG:=qh hgb
 have HL:Hid (h < w.heap.size):=qh A.lt
 have HX:Hid (w.heap.size < wb.heap.size):=qh (lt_of hbx)
 rw [decide_eq_true hf] at HM
 have HK:Hid (∀ w',wb.grownBy w' none→(w'.cell? ⟨h,0,none⟩=some (.int .i64 c.co)∧w'.cell? ⟨h,3,none⟩=some (.map (some F.ub))∧w'.cell? ⟨h,4,none⟩=some (.pointer (some ⟨F.pb,0,none⟩)))∧(w'.cell? ⟨w.heap.size,0,none⟩=some (.int .u8 n.k)∧w'.cell? ⟨w.heap.size,1,none⟩=some (.int .i64 n.f)∧w'.cell? ⟨w.heap.size,3,none⟩=some (.int .i64 n.b))∧(Instr.lookup 86 (.map (some F.ub)) (.int .i64 n.b) true).run Tryz.prog w' = .ok (.tuple #[.agg #[.int .u8 a0,.int .i64 a1,.int .u32 (a2:Int),.bool a3,.int .u64 a4],.bool is]) w'):=qh fun w' h'=>by
  have hA:=HA.out w' h'
  have hb:=(blk_lt hf.1).1
  refine ⟨⟨hA.cells.1,hA.cells.2.2.2.1,hA.cells.2.2.2.2⟩,⟨tt.cell_at (HR.out w' h') 0 _ rfl,tt.cell_at (HR.out w' h') 1 _ rfl,tt.cell_at (HR.out w' h') 3 _ rfl⟩,?_⟩
  have:=hA.look n.b.toNat
  rw [Int.toNat_of_nonneg hb,hx,hi] at this
  exact this
 have e9:(n.k == 9)=false:=by rw [hk];rfl
 have e10:(n.k == 10)=true:=by rw [hk];rfl
 have HQ:Hid (∀ w,_):=qh fun w=>mm.has_any a2 n.f w hm
 rw [hh] at HQ
 clear hk hm hh
 have HHX:=qh hx
 have HHI:=qh hi
 clear A hK hgb hbx hf hx hi
 go_enter Tryz.func10,Tryz.ntmps10
 go_wp2_with (first
  | ((with_reducible refine tt.load_nt n _ w.heap.size ?_ (HR.out _ (grown_refl _ _)) ?_);(rfl))
  | (go_at_call 34;((with_reducible refine (HM.out _ (grown_refl _ _)).mono ?_);rintro e w1 ⟨rfl,hg1⟩;have HG1:=qh hg1;clear hg1)))
 refine wp_region_held_drew (S:=fun w'=>wb.grownBy w' none) (by kernel_rfl) (tt.grown_drew HG1.out) (fun hHeld=>?_)
 generalize w1.drew=wd at hHeld ⊢
 have HD:=qh hHeld
 refine tl 0 ?_ rfl ?_ ?_ (tl 1 ?_ rfl ?_ ?_ (tl 2 ?_ rfl ?_ ?_ (tl 3 ?_ rfl ?_ ?_ (tl 4 ?_ rfl ?_ ?_ ?_))))
 iterate 5 (rotate_left;(next=>(try simp only [lay]);((intro w0 hSw;obtain ⟨⟨hs0,hs1,hs2⟩,⟨hs3,hs4,hs5⟩,hs6⟩:=HK.out w0 hSw;go_simp);try (with_reducible rfl)));next=>rfl)
 try simp only [lay]
 refine tl 5 ?_ rfl ?_ ?_ (tl 6 ?_ rfl ?_ ?_ (tl 7 ?_ rfl ?_ ?_ (tl 8 ?_ rfl ?_ ?_ (tl 9 ?_ rfl ?_ ?_ ?_))))
 iterate 5 (rotate_left;(next=>(try simp only [lay]);((intro w0 hSw;obtain ⟨⟨hs0,hs1,hs2⟩,⟨hs3,hs4,hs5⟩,hs6⟩:=HK.out w0 hSw;go_simp);try (with_reducible rfl)));next=>rfl)
 try simp only [lay]
 refine rd 10 rfl fun K hK=>?_
 go_simp
 refine hK.out _ _ (grown_alloc hHeld _) (fun hHeld=>?_)
 clear hK K
 try simp only [lay]
 refine rd 11 rfl fun K hK=>?_
 go_simp
 refine hK.out _ _ (grown_alloc HD.out _) (fun hHeld=>?_)
 clear hK K
 try simp only [lay]
 refine tl 12 ?_ rfl ?_ ?_ ?_
 (rotate_left;(next=>((intro w0 hSw;go_simp);try (with_reducible rfl)));next=>rfl)
 try simp only [lay]
 refine wpAnyH_done (by kernel_rfl) ?_ _
 obtain ⟨⟨f0,f1,f2⟩,⟨f3,f4,f5⟩,f6⟩:=HK.out wd HD.out
 have hlt:w.heap.size < wd.heap.size:=Nat.lt_of_lt_of_le HX.out HD.out.size
 have hne:¬ w.heap.size=wd.heap.size:=Nat.ne_of_lt hlt
 have hht:h < wd.heap.size:=Nat.lt_trans HL.out hlt
 have hhe:¬ h=wd.heap.size:=Nat.ne_of_lt hht
 go_wp2_with (go_at_call 35;((with_reducible refine (HQ.out _).mono ?_);rintro e w5 ⟨rfl,rfl⟩))
 go_ret
 exact ⟨rfl,grown_trans HG.out (grown_alloc HD.out _)⟩
theorem ready_10_f (A:HomeAt w h c F H) (hK:tt.TabK w) (n:Nt) (hf:fits c n∧n.t=-1) (a0 a1:Int) (a2:Nat) (a3:Bool) (a4:Int) (is:Bool) (hx:askOr H n.b.toNat=#[.int .u8 a0,.int .i64 a1,.int .u32 (a2:Int),.bool a3,.int .u64 a4]) (hi:(jbOf H n.b.toNat).isSome=is) (hk:n.k=10) (hm:a2 < 4294967296) (hh:mm.ha a2 n.f=false):Calls Tryz.prog 10 #[.pointer (some ⟨h,0,none⟩),.agg (na n)] w fun e w'=>e = .returned (.int .i64 8)∧w.grownBy w' none:=by
 obtain ⟨wb,hwb⟩:∃ wb,w.alloc (.cells (na n) 45)=wb:=⟨_,rfl⟩
 have hgb:w.grownBy wb none:=by rw [← hwb];exact grown_alloc (grown_refl _ _) _
 have HA:Hid (∀ w',wb.grownBy w' none→HomeAt w' h c F H):=qh fun w' h'=>A.grown (grown_trans hgb h')
 have hbx:wb.heap[w.heap.size]?=some (.cells (na n) 45 (0,0)):=by rw [← hwb];exact heap_alloc_new _ _
 have HR:Hid (∀ w',wb.grownBy w' none→w'.rangeAt w.heap.size 0 (nt n)):=qh fun w' h=>tt.range_grown (tt.range_of hbx) h (by simp)
 have HM:Hid (∀ w',wb.grownBy w' none→_):=qh fun w' h'=>hfits_any (HA.out w' h') ((hK.grown hgb).grown h') n
 have HG:=qh hgb
 have HL:Hid (h < w.heap.size):=qh A.lt
 have HX:Hid (w.heap.size < wb.heap.size):=qh (lt_of hbx)
 rw [decide_eq_true hf] at HM
 have HK:Hid (∀ w',wb.grownBy w' none→(w'.cell? ⟨h,0,none⟩=some (.int .i64 c.co)∧w'.cell? ⟨h,3,none⟩=some (.map (some F.ub))∧w'.cell? ⟨h,4,none⟩=some (.pointer (some ⟨F.pb,0,none⟩)))∧(w'.cell? ⟨w.heap.size,0,none⟩=some (.int .u8 n.k)∧w'.cell? ⟨w.heap.size,1,none⟩=some (.int .i64 n.f)∧w'.cell? ⟨w.heap.size,3,none⟩=some (.int .i64 n.b))∧(Instr.lookup 86 (.map (some F.ub)) (.int .i64 n.b) true).run Tryz.prog w' = .ok (.tuple #[.agg #[.int .u8 a0,.int .i64 a1,.int .u32 (a2:Int),.bool a3,.int .u64 a4],.bool is]) w'):=qh fun w' h'=>by
  have hA:=HA.out w' h'
  have hb:=(blk_lt hf.1).1
  refine ⟨⟨hA.cells.1,hA.cells.2.2.2.1,hA.cells.2.2.2.2⟩,⟨tt.cell_at (HR.out w' h') 0 _ rfl,tt.cell_at (HR.out w' h') 1 _ rfl,tt.cell_at (HR.out w' h') 3 _ rfl⟩,?_⟩
  have:=hA.look n.b.toNat
  rw [Int.toNat_of_nonneg hb,hx,hi] at this
  exact this
 have e9:(n.k == 9)=false:=by rw [hk];rfl
 have e10:(n.k == 10)=true:=by rw [hk];rfl
 have HQ:Hid (∀ w,_):=qh fun w=>mm.has_any a2 n.f w hm
 rw [hh] at HQ
 clear hk hm hh
 have HHX:=qh hx
 have HHI:=qh hi
 clear A hK hgb hbx hf hx hi
 go_enter Tryz.func10,Tryz.ntmps10
 go_wp2_with (first
  | ((with_reducible refine tt.load_nt n _ w.heap.size ?_ (HR.out _ (grown_refl _ _)) ?_);(rfl))
  | (go_at_call 34;((with_reducible refine (HM.out _ (grown_refl _ _)).mono ?_);rintro e w1 ⟨rfl,hg1⟩;have HG1:=qh hg1;clear hg1)))
 refine wp_region_held_drew (S:=fun w'=>wb.grownBy w' none) (by kernel_rfl) (tt.grown_drew HG1.out) (fun hHeld=>?_)
 generalize w1.drew=wd at hHeld ⊢
 have HD:=qh hHeld
 refine tl 0 ?_ rfl ?_ ?_ (tl 1 ?_ rfl ?_ ?_ (tl 2 ?_ rfl ?_ ?_ (tl 3 ?_ rfl ?_ ?_ (tl 4 ?_ rfl ?_ ?_ ?_))))
 iterate 5 (rotate_left;(next=>(try simp only [lay]);((intro w0 hSw;obtain ⟨⟨hs0,hs1,hs2⟩,⟨hs3,hs4,hs5⟩,hs6⟩:=HK.out w0 hSw;go_simp);try (with_reducible rfl)));next=>rfl)
 try simp only [lay]
 refine tl 5 ?_ rfl ?_ ?_ (tl 6 ?_ rfl ?_ ?_ (tl 7 ?_ rfl ?_ ?_ (tl 8 ?_ rfl ?_ ?_ (tl 9 ?_ rfl ?_ ?_ ?_))))
 iterate 5 (rotate_left;(next=>(try simp only [lay]);((intro w0 hSw;obtain ⟨⟨hs0,hs1,hs2⟩,⟨hs3,hs4,hs5⟩,hs6⟩:=HK.out w0 hSw;go_simp);try (with_reducible rfl)));next=>rfl)
 try simp only [lay]
 refine rd 10 rfl fun K hK=>?_
 go_simp
 refine hK.out _ _ (grown_alloc hHeld _) (fun hHeld=>?_)
 clear hK K
 try simp only [lay]
 refine rd 11 rfl fun K hK=>?_
 go_simp
 refine hK.out _ _ (grown_alloc HD.out _) (fun hHeld=>?_)
 clear hK K
 try simp only [lay]
 refine tl 12 ?_ rfl ?_ ?_ ?_
 (rotate_left;(next=>((intro w0 hSw;go_simp);try (with_reducible rfl)));next=>rfl)
 try simp only [lay]
 refine wpAnyH_done (by kernel_rfl) ?_ _
 obtain ⟨⟨f0,f1,f2⟩,⟨f3,f4,f5⟩,f6⟩:=HK.out wd HD.out
 have hlt:w.heap.size < wd.heap.size:=Nat.lt_of_lt_of_le HX.out HD.out.size
 have hne:¬ w.heap.size=wd.heap.size:=Nat.ne_of_lt hlt
 have hht:h < wd.heap.size:=Nat.lt_trans HL.out hlt
 have hhe:¬ h=wd.heap.size:=Nat.ne_of_lt hht
 go_wp2_with (go_at_call 35;((with_reducible refine (HQ.out _).mono ?_);rintro e w5 ⟨rfl,rfl⟩))
 go_ret
 exact ⟨rfl,grown_trans HG.out (grown_alloc HD.out _)⟩
theorem ready_11_no (A:HomeAt w h c F H) (hK:tt.TabK w) (n:Nt) (hf:fits c n∧n.t=-1) (a0 a1:Int) (a2:Nat) (a3:Bool) (a4:Int) (is:Bool) (hx:askOr H n.b.toNat=#[.int .u8 a0,.int .i64 a1,.int .u32 (a2:Int),.bool a3,.int .u64 a4]) (hi:(jbOf H n.b.toNat).isSome=is) (hk:n.k=11) (hh:is=false):Calls Tryz.prog 10 #[.pointer (some ⟨h,0,none⟩),.agg (na n)] w fun e w'=>e = .returned (.int .i64 8)∧w.grownBy w' none:=by
 obtain ⟨wb,hwb⟩:∃ wb,w.alloc (.cells (na n) 45)=wb:=⟨_,rfl⟩
 have hgb:w.grownBy wb none:=by rw [← hwb];exact grown_alloc (grown_refl _ _) _
 have HA:Hid (∀ w',wb.grownBy w' none→HomeAt w' h c F H):=qh fun w' h'=>A.grown (grown_trans hgb h')
 have hbx:wb.heap[w.heap.size]?=some (.cells (na n) 45 (0,0)):=by rw [← hwb];exact heap_alloc_new _ _
 have HR:Hid (∀ w',wb.grownBy w' none→w'.rangeAt w.heap.size 0 (nt n)):=qh fun w' h=>tt.range_grown (tt.range_of hbx) h (by simp)
 have HM:Hid (∀ w',wb.grownBy w' none→_):=qh fun w' h'=>hfits_any (HA.out w' h') ((hK.grown hgb).grown h') n
 have HG:=qh hgb
 have HL:Hid (h < w.heap.size):=qh A.lt
 have HX:Hid (w.heap.size < wb.heap.size):=qh (lt_of hbx)
 rw [decide_eq_true hf] at HM
 have HK:Hid (∀ w',wb.grownBy w' none→(w'.cell? ⟨h,0,none⟩=some (.int .i64 c.co)∧w'.cell? ⟨h,3,none⟩=some (.map (some F.ub))∧w'.cell? ⟨h,4,none⟩=some (.pointer (some ⟨F.pb,0,none⟩)))∧(w'.cell? ⟨w.heap.size,0,none⟩=some (.int .u8 n.k)∧w'.cell? ⟨w.heap.size,1,none⟩=some (.int .i64 n.f)∧w'.cell? ⟨w.heap.size,3,none⟩=some (.int .i64 n.b))∧(Instr.lookup 86 (.map (some F.ub)) (.int .i64 n.b) true).run Tryz.prog w' = .ok (.tuple #[.agg #[.int .u8 a0,.int .i64 a1,.int .u32 (a2:Int),.bool a3,.int .u64 a4],.bool is]) w'):=qh fun w' h'=>by
  have hA:=HA.out w' h'
  have hb:=(blk_lt hf.1).1
  refine ⟨⟨hA.cells.1,hA.cells.2.2.2.1,hA.cells.2.2.2.2⟩,⟨tt.cell_at (HR.out w' h') 0 _ rfl,tt.cell_at (HR.out w' h') 1 _ rfl,tt.cell_at (HR.out w' h') 3 _ rfl⟩,?_⟩
  have:=hA.look n.b.toNat
  rw [Int.toNat_of_nonneg hb,hx,hi] at this
  exact this
 have e9:(n.k == 9)=false:=by rw [hk];rfl
 have e10:(n.k == 10)=false:=by rw [hk];rfl
 have e11:(n.k == 11)=true:=by rw [hk];rfl
 subst hh
 clear hk
 have HHX:=qh hx
 have HHI:=qh hi
 clear A hK hgb hbx hf hx hi
 go_enter Tryz.func10,Tryz.ntmps10
 go_wp2_with (first
  | ((with_reducible refine tt.load_nt n _ w.heap.size ?_ (HR.out _ (grown_refl _ _)) ?_);(rfl))
  | (go_at_call 34;((with_reducible refine (HM.out _ (grown_refl _ _)).mono ?_);rintro e w1 ⟨rfl,hg1⟩;have HG1:=qh hg1;clear hg1)))
 refine wp_region_held_drew (S:=fun w'=>wb.grownBy w' none) (by kernel_rfl) (tt.grown_drew HG1.out) (fun hHeld=>?_)
 generalize w1.drew=wd at hHeld ⊢
 have HD:=qh hHeld
 refine tl 0 ?_ rfl ?_ ?_ (tl 1 ?_ rfl ?_ ?_ (tl 2 ?_ rfl ?_ ?_ (tl 3 ?_ rfl ?_ ?_ (tl 4 ?_ rfl ?_ ?_ ?_))))
 iterate 5 (rotate_left;(next=>(try simp only [lay]);((intro w0 hSw;obtain ⟨⟨hs0,hs1,hs2⟩,⟨hs3,hs4,hs5⟩,hs6⟩:=HK.out w0 hSw;go_simp);try (with_reducible rfl)));next=>rfl)
 try simp only [lay]
 refine tl 5 ?_ rfl ?_ ?_ (tl 6 ?_ rfl ?_ ?_ (tl 7 ?_ rfl ?_ ?_ (tl 8 ?_ rfl ?_ ?_ (tl 9 ?_ rfl ?_ ?_ ?_))))
 iterate 5 (rotate_left;(next=>(try simp only [lay]);((intro w0 hSw;obtain ⟨⟨hs0,hs1,hs2⟩,⟨hs3,hs4,hs5⟩,hs6⟩:=HK.out w0 hSw;go_simp);try (with_reducible rfl)));next=>rfl)
 try simp only [lay]
 refine rd 10 rfl fun K hK=>?_
 go_simp
 refine hK.out _ _ (grown_alloc hHeld _) (fun hHeld=>?_)
 clear hK K
 try simp only [lay]
 refine rd 11 rfl fun K hK=>?_
 go_simp
 refine hK.out _ _ (grown_alloc HD.out _) (fun hHeld=>?_)
 clear hK K
 try simp only [lay]
 refine tl 12 ?_ rfl ?_ ?_ ?_
 (rotate_left;(next=>((intro w0 hSw;go_simp);try (with_reducible rfl)));next=>rfl)
 try simp only [lay]
 refine wpAnyH_done (by kernel_rfl) ?_ _
 obtain ⟨⟨f0,f1,f2⟩,⟨f3,f4,f5⟩,f6⟩:=HK.out wd HD.out
 have hlt:w.heap.size < wd.heap.size:=Nat.lt_of_lt_of_le HX.out HD.out.size
 have hne:¬ w.heap.size=wd.heap.size:=Nat.ne_of_lt hlt
 have hht:h < wd.heap.size:=Nat.lt_trans HL.out hlt
 have hhe:¬ h=wd.heap.size:=Nat.ne_of_lt hht
 go_wp2_with (fail)
 go_ret
 exact ⟨rfl,grown_trans HG.out (grown_alloc HD.out _)⟩
theorem ready_11_left (A:HomeAt w h c F H) (hK:tt.TabK w) (n:Nt) (hf:fits c n∧n.t=-1) (a0 a1:Int) (a2:Nat) (a3:Bool) (a4:Int) (is:Bool) (hx:askOr H n.b.toNat=#[.int .u8 a0,.int .i64 a1,.int .u32 (a2:Int),.bool a3,.int .u64 a4]) (hi:(jbOf H n.b.toNat).isSome=is) (hk:n.k=11) (hh:is=true) (h2:((a2:Int) != 0)=true):Calls Tryz.prog 10 #[.pointer (some ⟨h,0,none⟩),.agg (na n)] w fun e w'=>e = .returned (.int .i64 8)∧w.grownBy w' none:=by
 obtain ⟨wb,hwb⟩:∃ wb,w.alloc (.cells (na n) 45)=wb:=⟨_,rfl⟩
 have hgb:w.grownBy wb none:=by rw [← hwb];exact grown_alloc (grown_refl _ _) _
 have HA:Hid (∀ w',wb.grownBy w' none→HomeAt w' h c F H):=qh fun w' h'=>A.grown (grown_trans hgb h')
 have hbx:wb.heap[w.heap.size]?=some (.cells (na n) 45 (0,0)):=by rw [← hwb];exact heap_alloc_new _ _
 have HR:Hid (∀ w',wb.grownBy w' none→w'.rangeAt w.heap.size 0 (nt n)):=qh fun w' h=>tt.range_grown (tt.range_of hbx) h (by simp)
 have HM:Hid (∀ w',wb.grownBy w' none→_):=qh fun w' h'=>hfits_any (HA.out w' h') ((hK.grown hgb).grown h') n
 have HG:=qh hgb
 have HL:Hid (h < w.heap.size):=qh A.lt
 have HX:Hid (w.heap.size < wb.heap.size):=qh (lt_of hbx)
 rw [decide_eq_true hf] at HM
 have HK:Hid (∀ w',wb.grownBy w' none→(w'.cell? ⟨h,0,none⟩=some (.int .i64 c.co)∧w'.cell? ⟨h,3,none⟩=some (.map (some F.ub))∧w'.cell? ⟨h,4,none⟩=some (.pointer (some ⟨F.pb,0,none⟩)))∧(w'.cell? ⟨w.heap.size,0,none⟩=some (.int .u8 n.k)∧w'.cell? ⟨w.heap.size,1,none⟩=some (.int .i64 n.f)∧w'.cell? ⟨w.heap.size,3,none⟩=some (.int .i64 n.b))∧(Instr.lookup 86 (.map (some F.ub)) (.int .i64 n.b) true).run Tryz.prog w' = .ok (.tuple #[.agg #[.int .u8 a0,.int .i64 a1,.int .u32 (a2:Int),.bool a3,.int .u64 a4],.bool is]) w'):=qh fun w' h'=>by
  have hA:=HA.out w' h'
  have hb:=(blk_lt hf.1).1
  refine ⟨⟨hA.cells.1,hA.cells.2.2.2.1,hA.cells.2.2.2.2⟩,⟨tt.cell_at (HR.out w' h') 0 _ rfl,tt.cell_at (HR.out w' h') 1 _ rfl,tt.cell_at (HR.out w' h') 3 _ rfl⟩,?_⟩
  have:=hA.look n.b.toNat
  rw [Int.toNat_of_nonneg hb,hx,hi] at this
  exact this
 have e9:(n.k == 9)=false:=by rw [hk];rfl
 have e10:(n.k == 10)=false:=by rw [hk];rfl
 have e11:(n.k == 11)=true:=by rw [hk];rfl
 subst hh
 clear hk
 have HHX:=qh hx
 have HHI:=qh hi
 clear A hK hgb hbx hf hx hi
 go_enter Tryz.func10,Tryz.ntmps10
 go_wp2_with (first
  | ((with_reducible refine tt.load_nt n _ w.heap.size ?_ (HR.out _ (grown_refl _ _)) ?_);(rfl))
  | (go_at_call 34;((with_reducible refine (HM.out _ (grown_refl _ _)).mono ?_);rintro e w1 ⟨rfl,hg1⟩;have HG1:=qh hg1;clear hg1)))
 refine wp_region_held_drew (S:=fun w'=>wb.grownBy w' none) (by kernel_rfl) (tt.grown_drew HG1.out) (fun hHeld=>?_)
 generalize w1.drew=wd at hHeld ⊢
 have HD:=qh hHeld
 refine tl 0 ?_ rfl ?_ ?_ (tl 1 ?_ rfl ?_ ?_ (tl 2 ?_ rfl ?_ ?_ (tl 3 ?_ rfl ?_ ?_ (tl 4 ?_ rfl ?_ ?_ ?_))))
 iterate 5 (rotate_left;(next=>(try simp only [lay]);((intro w0 hSw;obtain ⟨⟨hs0,hs1,hs2⟩,⟨hs3,hs4,hs5⟩,hs6⟩:=HK.out w0 hSw;go_simp);try (with_reducible rfl)));next=>rfl)
 try simp only [lay]
 refine tl 5 ?_ rfl ?_ ?_ (tl 6 ?_ rfl ?_ ?_ (tl 7 ?_ rfl ?_ ?_ (tl 8 ?_ rfl ?_ ?_ (tl 9 ?_ rfl ?_ ?_ ?_))))
 iterate 5 (rotate_left;(next=>(try simp only [lay]);((intro w0 hSw;obtain ⟨⟨hs0,hs1,hs2⟩,⟨hs3,hs4,hs5⟩,hs6⟩:=HK.out w0 hSw;go_simp);try (with_reducible rfl)));next=>rfl)
 try simp only [lay]
 refine rd 10 rfl fun K hK=>?_
 go_simp
 refine hK.out _ _ (grown_alloc hHeld _) (fun hHeld=>?_)
 clear hK K
 try simp only [lay]
 refine rd 11 rfl fun K hK=>?_
 go_simp
 refine hK.out _ _ (grown_alloc HD.out _) (fun hHeld=>?_)
 clear hK K
 try simp only [lay]
 refine tl 12 ?_ rfl ?_ ?_ ?_
 (rotate_left;(next=>((intro w0 hSw;go_simp);try (with_reducible rfl)));next=>rfl)
 try simp only [lay]
 refine wpAnyH_done (by kernel_rfl) ?_ _
 obtain ⟨⟨f0,f1,f2⟩,⟨f3,f4,f5⟩,f6⟩:=HK.out wd HD.out
 have hlt:w.heap.size < wd.heap.size:=Nat.lt_of_lt_of_le HX.out HD.out.size
 have hne:¬ w.heap.size=wd.heap.size:=Nat.ne_of_lt hlt
 have hht:h < wd.heap.size:=Nat.lt_trans HL.out hlt
 have hhe:¬ h=wd.heap.size:=Nat.ne_of_lt hht
 go_wp2_with (fail)
 go_ret
 exact ⟨rfl,grown_trans HG.out (grown_alloc HD.out _)⟩
theorem ready_11_not (A:HomeAt w h c F H) (hK:tt.TabK w) (n:Nt) (hf:fits c n∧n.t=-1) (a0 a1:Int) (a2:Nat) (a3:Bool) (a4:Int) (is:Bool) (hx:askOr H n.b.toNat=#[.int .u8 a0,.int .i64 a1,.int .u32 (a2:Int),.bool a3,.int .u64 a4]) (hi:(jbOf H n.b.toNat).isSome=is) (hk:n.k=11) (hh:is=true) (h2:((a2:Int) != 0)=false) (h3:(a1 != n.f)=true):Calls Tryz.prog 10 #[.pointer (some ⟨h,0,none⟩),.agg (na n)] w fun e w'=>e = .returned (.int .i64 8)∧w.grownBy w' none:=by
 obtain ⟨wb,hwb⟩:∃ wb,w.alloc (.cells (na n) 45)=wb:=⟨_,rfl⟩
 have hgb:w.grownBy wb none:=by rw [← hwb];exact grown_alloc (grown_refl _ _) _
 have HA:Hid (∀ w',wb.grownBy w' none→HomeAt w' h c F H):=qh fun w' h'=>A.grown (grown_trans hgb h')
 have hbx:wb.heap[w.heap.size]?=some (.cells (na n) 45 (0,0)):=by rw [← hwb];exact heap_alloc_new _ _
 have HR:Hid (∀ w',wb.grownBy w' none→w'.rangeAt w.heap.size 0 (nt n)):=qh fun w' h=>tt.range_grown (tt.range_of hbx) h (by simp)
 have HM:Hid (∀ w',wb.grownBy w' none→_):=qh fun w' h'=>hfits_any (HA.out w' h') ((hK.grown hgb).grown h') n
 have HG:=qh hgb
 have HL:Hid (h < w.heap.size):=qh A.lt
 have HX:Hid (w.heap.size < wb.heap.size):=qh (lt_of hbx)
 rw [decide_eq_true hf] at HM
 have HK:Hid (∀ w',wb.grownBy w' none→(w'.cell? ⟨h,0,none⟩=some (.int .i64 c.co)∧w'.cell? ⟨h,3,none⟩=some (.map (some F.ub))∧w'.cell? ⟨h,4,none⟩=some (.pointer (some ⟨F.pb,0,none⟩)))∧(w'.cell? ⟨w.heap.size,0,none⟩=some (.int .u8 n.k)∧w'.cell? ⟨w.heap.size,1,none⟩=some (.int .i64 n.f)∧w'.cell? ⟨w.heap.size,3,none⟩=some (.int .i64 n.b))∧(Instr.lookup 86 (.map (some F.ub)) (.int .i64 n.b) true).run Tryz.prog w' = .ok (.tuple #[.agg #[.int .u8 a0,.int .i64 a1,.int .u32 (a2:Int),.bool a3,.int .u64 a4],.bool is]) w'):=qh fun w' h'=>by
  have hA:=HA.out w' h'
  have hb:=(blk_lt hf.1).1
  refine ⟨⟨hA.cells.1,hA.cells.2.2.2.1,hA.cells.2.2.2.2⟩,⟨tt.cell_at (HR.out w' h') 0 _ rfl,tt.cell_at (HR.out w' h') 1 _ rfl,tt.cell_at (HR.out w' h') 3 _ rfl⟩,?_⟩
  have:=hA.look n.b.toNat
  rw [Int.toNat_of_nonneg hb,hx,hi] at this
  exact this
 have e9:(n.k == 9)=false:=by rw [hk];rfl
 have e10:(n.k == 10)=false:=by rw [hk];rfl
 have e11:(n.k == 11)=true:=by rw [hk];rfl
 subst hh
 clear hk
 have HHX:=qh hx
 have HHI:=qh hi
 clear A hK hgb hbx hf hx hi
 go_enter Tryz.func10,Tryz.ntmps10
 go_wp2_with (first
  | ((with_reducible refine tt.load_nt n _ w.heap.size ?_ (HR.out _ (grown_refl _ _)) ?_);(rfl))
  | (go_at_call 34;((with_reducible refine (HM.out _ (grown_refl _ _)).mono ?_);rintro e w1 ⟨rfl,hg1⟩;have HG1:=qh hg1;clear hg1)))
 refine wp_region_held_drew (S:=fun w'=>wb.grownBy w' none) (by kernel_rfl) (tt.grown_drew HG1.out) (fun hHeld=>?_)
 generalize w1.drew=wd at hHeld ⊢
 have HD:=qh hHeld
 refine tl 0 ?_ rfl ?_ ?_ (tl 1 ?_ rfl ?_ ?_ (tl 2 ?_ rfl ?_ ?_ (tl 3 ?_ rfl ?_ ?_ (tl 4 ?_ rfl ?_ ?_ ?_))))
 iterate 5 (rotate_left;(next=>(try simp only [lay]);((intro w0 hSw;obtain ⟨⟨hs0,hs1,hs2⟩,⟨hs3,hs4,hs5⟩,hs6⟩:=HK.out w0 hSw;go_simp);try (with_reducible rfl)));next=>rfl)
 try simp only [lay]
 refine tl 5 ?_ rfl ?_ ?_ (tl 6 ?_ rfl ?_ ?_ (tl 7 ?_ rfl ?_ ?_ (tl 8 ?_ rfl ?_ ?_ (tl 9 ?_ rfl ?_ ?_ ?_))))
 iterate 5 (rotate_left;(next=>(try simp only [lay]);((intro w0 hSw;obtain ⟨⟨hs0,hs1,hs2⟩,⟨hs3,hs4,hs5⟩,hs6⟩:=HK.out w0 hSw;go_simp);try (with_reducible rfl)));next=>rfl)
 try simp only [lay]
 refine rd 10 rfl fun K hK=>?_
 go_simp
 refine hK.out _ _ (grown_alloc hHeld _) (fun hHeld=>?_)
 clear hK K
 try simp only [lay]
 refine rd 11 rfl fun K hK=>?_
 go_simp
 refine hK.out _ _ (grown_alloc HD.out _) (fun hHeld=>?_)
 clear hK K
 try simp only [lay]
 refine tl 12 ?_ rfl ?_ ?_ ?_
 (rotate_left;(next=>((intro w0 hSw;go_simp);try (with_reducible rfl)));next=>rfl)
 try simp only [lay]
 refine wpAnyH_done (by kernel_rfl) ?_ _
 obtain ⟨⟨f0,f1,f2⟩,⟨f3,f4,f5⟩,f6⟩:=HK.out wd HD.out
 have hlt:w.heap.size < wd.heap.size:=Nat.lt_of_lt_of_le HX.out HD.out.size
 have hne:¬ w.heap.size=wd.heap.size:=Nat.ne_of_lt hlt
 have hht:h < wd.heap.size:=Nat.lt_trans HL.out hlt
 have hhe:¬ h=wd.heap.size:=Nat.ne_of_lt hht
 go_wp2_with (fail)
 go_ret
 exact ⟨rfl,grown_trans HG.out (grown_alloc HD.out _)⟩
theorem ready_11_yes (A:HomeAt w h c F H) (hK:tt.TabK w) (n:Nt) (hf:fits c n∧n.t=-1) (a0 a1:Int) (a2:Nat) (a3:Bool) (a4:Int) (is:Bool) (hx:askOr H n.b.toNat=#[.int .u8 a0,.int .i64 a1,.int .u32 (a2:Int),.bool a3,.int .u64 a4]) (hi:(jbOf H n.b.toNat).isSome=is) (hk:n.k=11) (hh:is=true) (h2:((a2:Int) != 0)=false) (h3:(a1 != n.f)=false):Calls Tryz.prog 10 #[.pointer (some ⟨h,0,none⟩),.agg (na n)] w fun e w'=>e = .returned (.int .i64 0)∧w.grownBy w' none:=by
 obtain ⟨wb,hwb⟩:∃ wb,w.alloc (.cells (na n) 45)=wb:=⟨_,rfl⟩
 have hgb:w.grownBy wb none:=by rw [← hwb];exact grown_alloc (grown_refl _ _) _
 have HA:Hid (∀ w',wb.grownBy w' none→HomeAt w' h c F H):=qh fun w' h'=>A.grown (grown_trans hgb h')
 have hbx:wb.heap[w.heap.size]?=some (.cells (na n) 45 (0,0)):=by rw [← hwb];exact heap_alloc_new _ _
 have HR:Hid (∀ w',wb.grownBy w' none→w'.rangeAt w.heap.size 0 (nt n)):=qh fun w' h=>tt.range_grown (tt.range_of hbx) h (by simp)
 have HM:Hid (∀ w',wb.grownBy w' none→_):=qh fun w' h'=>hfits_any (HA.out w' h') ((hK.grown hgb).grown h') n
 have HG:=qh hgb
 have HL:Hid (h < w.heap.size):=qh A.lt
 have HX:Hid (w.heap.size < wb.heap.size):=qh (lt_of hbx)
 rw [decide_eq_true hf] at HM
 have HK:Hid (∀ w',wb.grownBy w' none→(w'.cell? ⟨h,0,none⟩=some (.int .i64 c.co)∧w'.cell? ⟨h,3,none⟩=some (.map (some F.ub))∧w'.cell? ⟨h,4,none⟩=some (.pointer (some ⟨F.pb,0,none⟩)))∧(w'.cell? ⟨w.heap.size,0,none⟩=some (.int .u8 n.k)∧w'.cell? ⟨w.heap.size,1,none⟩=some (.int .i64 n.f)∧w'.cell? ⟨w.heap.size,3,none⟩=some (.int .i64 n.b))∧(Instr.lookup 86 (.map (some F.ub)) (.int .i64 n.b) true).run Tryz.prog w' = .ok (.tuple #[.agg #[.int .u8 a0,.int .i64 a1,.int .u32 (a2:Int),.bool a3,.int .u64 a4],.bool is]) w'):=qh fun w' h'=>by
  have hA:=HA.out w' h'
  have hb:=(blk_lt hf.1).1
  refine ⟨⟨hA.cells.1,hA.cells.2.2.2.1,hA.cells.2.2.2.2⟩,⟨tt.cell_at (HR.out w' h') 0 _ rfl,tt.cell_at (HR.out w' h') 1 _ rfl,tt.cell_at (HR.out w' h') 3 _ rfl⟩,?_⟩
  have:=hA.look n.b.toNat
  rw [Int.toNat_of_nonneg hb,hx,hi] at this
  exact this
 have e9:(n.k == 9)=false:=by rw [hk];rfl
 have e10:(n.k == 10)=false:=by rw [hk];rfl
 have e11:(n.k == 11)=true:=by rw [hk];rfl
 subst hh
 clear hk
 have HHX:=qh hx
 have HHI:=qh hi
 clear A hK hgb hbx hf hx hi
 go_enter Tryz.func10,Tryz.ntmps10
 go_wp2_with (first
  | ((with_reducible refine tt.load_nt n _ w.heap.size ?_ (HR.out _ (grown_refl _ _)) ?_);(rfl))
  | (go_at_call 34;((with_reducible refine (HM.out _ (grown_refl _ _)).mono ?_);rintro e w1 ⟨rfl,hg1⟩;have HG1:=qh hg1;clear hg1)))
 refine wp_region_held_drew (S:=fun w'=>wb.grownBy w' none) (by kernel_rfl) (tt.grown_drew HG1.out) (fun hHeld=>?_)
 generalize w1.drew=wd at hHeld ⊢
 have HD:=qh hHeld
 refine tl 0 ?_ rfl ?_ ?_ (tl 1 ?_ rfl ?_ ?_ (tl 2 ?_ rfl ?_ ?_ (tl 3 ?_ rfl ?_ ?_ (tl 4 ?_ rfl ?_ ?_ ?_))))
 iterate 5 (rotate_left;(next=>(try simp only [lay]);((intro w0 hSw;obtain ⟨⟨hs0,hs1,hs2⟩,⟨hs3,hs4,hs5⟩,hs6⟩:=HK.out w0 hSw;go_simp);try (with_reducible rfl)));next=>rfl)
 try simp only [lay]
 refine tl 5 ?_ rfl ?_ ?_ (tl 6 ?_ rfl ?_ ?_ (tl 7 ?_ rfl ?_ ?_ (tl 8 ?_ rfl ?_ ?_ (tl 9 ?_ rfl ?_ ?_ ?_))))
 iterate 5 (rotate_left;(next=>(try simp only [lay]);((intro w0 hSw;obtain ⟨⟨hs0,hs1,hs2⟩,⟨hs3,hs4,hs5⟩,hs6⟩:=HK.out w0 hSw;go_simp);try (with_reducible rfl)));next=>rfl)
 try simp only [lay]
 refine rd 10 rfl fun K hK=>?_
 go_simp
 refine hK.out _ _ (grown_alloc hHeld _) (fun hHeld=>?_)
 clear hK K
 try simp only [lay]
 refine rd 11 rfl fun K hK=>?_
 go_simp
 refine hK.out _ _ (grown_alloc HD.out _) (fun hHeld=>?_)
 clear hK K
 try simp only [lay]
 refine tl 12 ?_ rfl ?_ ?_ ?_
 (rotate_left;(next=>((intro w0 hSw;go_simp);try (with_reducible rfl)));next=>rfl)
 try simp only [lay]
 refine wpAnyH_done (by kernel_rfl) ?_ _
 obtain ⟨⟨f0,f1,f2⟩,⟨f3,f4,f5⟩,f6⟩:=HK.out wd HD.out
 have hlt:w.heap.size < wd.heap.size:=Nat.lt_of_lt_of_le HX.out HD.out.size
 have hne:¬ w.heap.size=wd.heap.size:=Nat.ne_of_lt hlt
 have hht:h < wd.heap.size:=Nat.lt_trans HL.out hlt
 have hhe:¬ h=wd.heap.size:=Nat.ne_of_lt hht
 go_wp2_with (fail)
 go_ret
 exact ⟨rfl,grown_trans HG.out (grown_alloc HD.out _)⟩
theorem ready_new (A:HomeAt w h c F H) (hK:tt.TabK w) (n:Nt) (hf:fits c n∧n.t=-1) (a0 a1:Int) (a2:Nat) (a3:Bool) (a4:Int) (is:Bool) (hx:askOr H n.b.toNat=#[.int .u8 a0,.int .i64 a1,.int .u32 (a2:Int),.bool a3,.int .u64 a4]) (hi:(jbOf H n.b.toNat).isSome=is) (hk:n.k=1 ∨ n.k=2 ∨ n.k=3) (hh:is=false):Calls Tryz.prog 10 #[.pointer (some ⟨h,0,none⟩),.agg (na n)] w fun e w'=>e = .returned (.int .i64 0)∧w.grownBy w' none:=by
 obtain ⟨wb,hwb⟩:∃ wb,w.alloc (.cells (na n) 45)=wb:=⟨_,rfl⟩
 have hgb:w.grownBy wb none:=by rw [← hwb];exact grown_alloc (grown_refl _ _) _
 have HA:Hid (∀ w',wb.grownBy w' none→HomeAt w' h c F H):=qh fun w' h'=>A.grown (grown_trans hgb h')
 have hbx:wb.heap[w.heap.size]?=some (.cells (na n) 45 (0,0)):=by rw [← hwb];exact heap_alloc_new _ _
 have HR:Hid (∀ w',wb.grownBy w' none→w'.rangeAt w.heap.size 0 (nt n)):=qh fun w' h=>tt.range_grown (tt.range_of hbx) h (by simp)
 have HM:Hid (∀ w',wb.grownBy w' none→_):=qh fun w' h'=>hfits_any (HA.out w' h') ((hK.grown hgb).grown h') n
 have HG:=qh hgb
 have HL:Hid (h < w.heap.size):=qh A.lt
 have HX:Hid (w.heap.size < wb.heap.size):=qh (lt_of hbx)
 rw [decide_eq_true hf] at HM
 have HK:Hid (∀ w',wb.grownBy w' none→(w'.cell? ⟨h,0,none⟩=some (.int .i64 c.co)∧w'.cell? ⟨h,3,none⟩=some (.map (some F.ub))∧w'.cell? ⟨h,4,none⟩=some (.pointer (some ⟨F.pb,0,none⟩)))∧(w'.cell? ⟨w.heap.size,0,none⟩=some (.int .u8 n.k)∧w'.cell? ⟨w.heap.size,1,none⟩=some (.int .i64 n.f)∧w'.cell? ⟨w.heap.size,3,none⟩=some (.int .i64 n.b))∧(Instr.lookup 86 (.map (some F.ub)) (.int .i64 n.b) true).run Tryz.prog w' = .ok (.tuple #[.agg #[.int .u8 a0,.int .i64 a1,.int .u32 (a2:Int),.bool a3,.int .u64 a4],.bool is]) w'):=qh fun w' h'=>by
  have hA:=HA.out w' h'
  have hb:=(blk_lt hf.1).1
  refine ⟨⟨hA.cells.1,hA.cells.2.2.2.1,hA.cells.2.2.2.2⟩,⟨tt.cell_at (HR.out w' h') 0 _ rfl,tt.cell_at (HR.out w' h') 1 _ rfl,tt.cell_at (HR.out w' h') 3 _ rfl⟩,?_⟩
  have:=hA.look n.b.toNat
  rw [Int.toNat_of_nonneg hb,hx,hi] at this
  exact this
 have e9:(n.k == 9)=false:=by simp;omega
 have e10:(n.k == 10)=false:=by simp;omega
 have e11:(n.k == 11)=false:=by simp;omega
 subst hh
 clear hk
 have HHX:=qh hx
 have HHI:=qh hi
 clear A hK hgb hbx hf hx hi
 go_enter Tryz.func10,Tryz.ntmps10
 go_wp2_with (first
  | ((with_reducible refine tt.load_nt n _ w.heap.size ?_ (HR.out _ (grown_refl _ _)) ?_);(rfl))
  | (go_at_call 34;((with_reducible refine (HM.out _ (grown_refl _ _)).mono ?_);rintro e w1 ⟨rfl,hg1⟩;have HG1:=qh hg1;clear hg1)))
 refine wp_region_held_drew (S:=fun w'=>wb.grownBy w' none) (by kernel_rfl) (tt.grown_drew HG1.out) (fun hHeld=>?_)
 generalize w1.drew=wd at hHeld ⊢
 have HD:=qh hHeld
 refine tl 0 ?_ rfl ?_ ?_ (tl 1 ?_ rfl ?_ ?_ (tl 2 ?_ rfl ?_ ?_ (tl 3 ?_ rfl ?_ ?_ (tl 4 ?_ rfl ?_ ?_ ?_))))
 iterate 5 (rotate_left;(next=>(try simp only [lay]);((intro w0 hSw;obtain ⟨⟨hs0,hs1,hs2⟩,⟨hs3,hs4,hs5⟩,hs6⟩:=HK.out w0 hSw;go_simp);try (with_reducible rfl)));next=>rfl)
 try simp only [lay]
 refine tl 5 ?_ rfl ?_ ?_ (tl 6 ?_ rfl ?_ ?_ (tl 7 ?_ rfl ?_ ?_ (tl 8 ?_ rfl ?_ ?_ (tl 9 ?_ rfl ?_ ?_ ?_))))
 iterate 5 (rotate_left;(next=>(try simp only [lay]);((intro w0 hSw;obtain ⟨⟨hs0,hs1,hs2⟩,⟨hs3,hs4,hs5⟩,hs6⟩:=HK.out w0 hSw;go_simp);try (with_reducible rfl)));next=>rfl)
 try simp only [lay]
 refine rd 10 rfl fun K hK=>?_
 go_simp
 refine hK.out _ _ (grown_alloc hHeld _) (fun hHeld=>?_)
 clear hK K
 try simp only [lay]
 refine rd 11 rfl fun K hK=>?_
 go_simp
 refine hK.out _ _ (grown_alloc HD.out _) (fun hHeld=>?_)
 clear hK K
 try simp only [lay]
 refine tl 12 ?_ rfl ?_ ?_ ?_
 (rotate_left;(next=>((intro w0 hSw;go_simp);try (with_reducible rfl)));next=>rfl)
 try simp only [lay]
 refine wpAnyH_done (by kernel_rfl) ?_ _
 obtain ⟨⟨f0,f1,f2⟩,⟨f3,f4,f5⟩,f6⟩:=HK.out wd HD.out
 have hlt:w.heap.size < wd.heap.size:=Nat.lt_of_lt_of_le HX.out HD.out.size
 have hne:¬ w.heap.size=wd.heap.size:=Nat.ne_of_lt hlt
 have hht:h < wd.heap.size:=Nat.lt_trans HL.out hlt
 have hhe:¬ h=wd.heap.size:=Nat.ne_of_lt hht
 go_wp2_with (fail)
 go_ret
 exact ⟨rfl,grown_trans HG.out (grown_alloc HD.out _)⟩
theorem ready_full (A:HomeAt w h c F H) (hK:tt.TabK w) (n:Nt) (hf:fits c n∧n.t=-1) (a0 a1:Int) (a2:Nat) (a3:Bool) (a4:Int) (is:Bool) (hx:askOr H n.b.toNat=#[.int .u8 a0,.int .i64 a1,.int .u32 (a2:Int),.bool a3,.int .u64 a4]) (hi:(jbOf H n.b.toNat).isSome=is) (hk:n.k=1 ∨ n.k=2 ∨ n.k=3) (hh:is=true) (hr:room c ≤ H.wt.length):Calls Tryz.prog 10 #[.pointer (some ⟨h,0,none⟩),.agg (na n)] w fun e w'=>e = .returned (.int .i64 110)∧w.grownBy w' none:=by
 obtain ⟨wb,hwb⟩:∃ wb,w.alloc (.cells (na n) 45)=wb:=⟨_,rfl⟩
 have hgb:w.grownBy wb none:=by rw [← hwb];exact grown_alloc (grown_refl _ _) _
 have HA:Hid (∀ w',wb.grownBy w' none→HomeAt w' h c F H):=qh fun w' h'=>A.grown (grown_trans hgb h')
 have hbx:wb.heap[w.heap.size]?=some (.cells (na n) 45 (0,0)):=by rw [← hwb];exact heap_alloc_new _ _
 have HR:Hid (∀ w',wb.grownBy w' none→w'.rangeAt w.heap.size 0 (nt n)):=qh fun w' h=>tt.range_grown (tt.range_of hbx) h (by simp)
 have HM:Hid (∀ w',wb.grownBy w' none→_):=qh fun w' h'=>hfits_any (HA.out w' h') ((hK.grown hgb).grown h') n
 have HG:=qh hgb
 have HL:Hid (h < w.heap.size):=qh A.lt
 have HX:Hid (w.heap.size < wb.heap.size):=qh (lt_of hbx)
 rw [decide_eq_true hf] at HM
 have HK:Hid (∀ w',wb.grownBy w' none→(w'.cell? ⟨h,0,none⟩=some (.int .i64 c.co)∧w'.cell? ⟨h,3,none⟩=some (.map (some F.ub))∧w'.cell? ⟨h,4,none⟩=some (.pointer (some ⟨F.pb,0,none⟩)))∧(w'.cell? ⟨w.heap.size,0,none⟩=some (.int .u8 n.k)∧w'.cell? ⟨w.heap.size,1,none⟩=some (.int .i64 n.f)∧w'.cell? ⟨w.heap.size,3,none⟩=some (.int .i64 n.b))∧(Instr.lookup 86 (.map (some F.ub)) (.int .i64 n.b) true).run Tryz.prog w' = .ok (.tuple #[.agg #[.int .u8 a0,.int .i64 a1,.int .u32 (a2:Int),.bool a3,.int .u64 a4],.bool is]) w'):=qh fun w' h'=>by
  have hA:=HA.out w' h'
  have hb:=(blk_lt hf.1).1
  refine ⟨⟨hA.cells.1,hA.cells.2.2.2.1,hA.cells.2.2.2.2⟩,⟨tt.cell_at (HR.out w' h') 0 _ rfl,tt.cell_at (HR.out w' h') 1 _ rfl,tt.cell_at (HR.out w' h') 3 _ rfl⟩,?_⟩
  have:=hA.look n.b.toNat
  rw [Int.toNat_of_nonneg hb,hx,hi] at this
  exact this
 have e9:(n.k == 9)=false:=by simp;omega
 have e10:(n.k == 10)=false:=by simp;omega
 have e11:(n.k == 11)=false:=by simp;omega
 subst hh
 have hrl:=room_le A.inv.may
 have hfl:=A.full
 have HQ:Hid (∀ w',wb.grownBy w' none→_):=qh fun w' h'=>tt.proom_any F.pb F.pv (room c) H.wt w' (HA.out w' h').pool A.full hrl.2.1
 have e0:((room c:Int) - (H.wt.length:Int) == 0)=true:=by simp;omega
 generalize (room c:Int) - (H.wt.length:Int)=dif at HQ e0
 clear hk hr hrl hfl
 have HHX:=qh hx
 have HHI:=qh hi
 clear A hK hgb hbx hf hx hi
 go_enter Tryz.func10,Tryz.ntmps10
 go_wp2_with (first
  | ((with_reducible refine tt.load_nt n _ w.heap.size ?_ (HR.out _ (grown_refl _ _)) ?_);(rfl))
  | (go_at_call 34;((with_reducible refine (HM.out _ (grown_refl _ _)).mono ?_);rintro e w1 ⟨rfl,hg1⟩;have HG1:=qh hg1;clear hg1)))
 refine wp_region_held_drew (S:=fun w'=>wb.grownBy w' none) (by kernel_rfl) (tt.grown_drew HG1.out) (fun hHeld=>?_)
 generalize w1.drew=wd at hHeld ⊢
 have HD:=qh hHeld
 refine tl 0 ?_ rfl ?_ ?_ (tl 1 ?_ rfl ?_ ?_ (tl 2 ?_ rfl ?_ ?_ (tl 3 ?_ rfl ?_ ?_ (tl 4 ?_ rfl ?_ ?_ ?_))))
 iterate 5 (rotate_left;(next=>(try simp only [lay]);((intro w0 hSw;obtain ⟨⟨hs0,hs1,hs2⟩,⟨hs3,hs4,hs5⟩,hs6⟩:=HK.out w0 hSw;go_simp);try (with_reducible rfl)));next=>rfl)
 try simp only [lay]
 refine tl 5 ?_ rfl ?_ ?_ (tl 6 ?_ rfl ?_ ?_ (tl 7 ?_ rfl ?_ ?_ (tl 8 ?_ rfl ?_ ?_ (tl 9 ?_ rfl ?_ ?_ ?_))))
 iterate 5 (rotate_left;(next=>(try simp only [lay]);((intro w0 hSw;obtain ⟨⟨hs0,hs1,hs2⟩,⟨hs3,hs4,hs5⟩,hs6⟩:=HK.out w0 hSw;go_simp);try (with_reducible rfl)));next=>rfl)
 try simp only [lay]
 refine rd 10 rfl fun K hK=>?_
 go_simp
 refine hK.out _ _ (grown_alloc hHeld _) (fun hHeld=>?_)
 clear hK K
 try simp only [lay]
 refine rd 11 rfl fun K hK=>?_
 go_simp
 refine hK.out _ _ (grown_alloc HD.out _) (fun hHeld=>?_)
 clear hK K
 try simp only [lay]
 refine tl 12 ?_ rfl ?_ ?_ ?_
 (rotate_left;(next=>((intro w0 hSw;go_simp);try (with_reducible rfl)));next=>rfl)
 try simp only [lay]
 refine wpAnyH_done (by kernel_rfl) ?_ _
 obtain ⟨⟨f0,f1,f2⟩,⟨f3,f4,f5⟩,f6⟩:=HK.out wd HD.out
 have hlt:w.heap.size < wd.heap.size:=Nat.lt_of_lt_of_le HX.out HD.out.size
 have hne:¬ w.heap.size=wd.heap.size:=Nat.ne_of_lt hlt
 have hht:h < wd.heap.size:=Nat.lt_trans HL.out hlt
 have hhe:¬ h=wd.heap.size:=Nat.ne_of_lt hht
 go_wp2_with (go_at_call 36;((with_reducible refine (HQ.out _ (grown_alloc HD.out _)).mono ?_);rintro e w5 ⟨rfl,hq5⟩;have HQ5:=qh hq5;clear hq5))
 go_ret
 obtain ⟨nq,rfl⟩:=HQ5.out
 exact ⟨rfl,grown_trans HG.out (tt.grown_drewN (grown_alloc HD.out _) _)⟩
theorem ready_wait (A:HomeAt w h c F H) (hK:tt.TabK w) (n:Nt) (hf:fits c n∧n.t=-1) (a0 a1:Int) (a2:Nat) (a3:Bool) (a4:Int) (is:Bool) (hx:askOr H n.b.toNat=#[.int .u8 a0,.int .i64 a1,.int .u32 (a2:Int),.bool a3,.int .u64 a4]) (hi:(jbOf H n.b.toNat).isSome=is) (hk:n.k=1 ∨ n.k=2 ∨ n.k=3) (hh:is=true) (hr:¬ room c ≤ H.wt.length):Calls Tryz.prog 10 #[.pointer (some ⟨h,0,none⟩),.agg (na n)] w fun e w'=>e = .returned (.int .i64 0)∧w.grownBy w' none:=by
 obtain ⟨wb,hwb⟩:∃ wb,w.alloc (.cells (na n) 45)=wb:=⟨_,rfl⟩
 have hgb:w.grownBy wb none:=by rw [← hwb];exact grown_alloc (grown_refl _ _) _
 have HA:Hid (∀ w',wb.grownBy w' none→HomeAt w' h c F H):=qh fun w' h'=>A.grown (grown_trans hgb h')
 have hbx:wb.heap[w.heap.size]?=some (.cells (na n) 45 (0,0)):=by rw [← hwb];exact heap_alloc_new _ _
 have HR:Hid (∀ w',wb.grownBy w' none→w'.rangeAt w.heap.size 0 (nt n)):=qh fun w' h=>tt.range_grown (tt.range_of hbx) h (by simp)
 have HM:Hid (∀ w',wb.grownBy w' none→_):=qh fun w' h'=>hfits_any (HA.out w' h') ((hK.grown hgb).grown h') n
 have HG:=qh hgb
 have HL:Hid (h < w.heap.size):=qh A.lt
 have HX:Hid (w.heap.size < wb.heap.size):=qh (lt_of hbx)
 rw [decide_eq_true hf] at HM
 have HK:Hid (∀ w',wb.grownBy w' none→(w'.cell? ⟨h,0,none⟩=some (.int .i64 c.co)∧w'.cell? ⟨h,3,none⟩=some (.map (some F.ub))∧w'.cell? ⟨h,4,none⟩=some (.pointer (some ⟨F.pb,0,none⟩)))∧(w'.cell? ⟨w.heap.size,0,none⟩=some (.int .u8 n.k)∧w'.cell? ⟨w.heap.size,1,none⟩=some (.int .i64 n.f)∧w'.cell? ⟨w.heap.size,3,none⟩=some (.int .i64 n.b))∧(Instr.lookup 86 (.map (some F.ub)) (.int .i64 n.b) true).run Tryz.prog w' = .ok (.tuple #[.agg #[.int .u8 a0,.int .i64 a1,.int .u32 (a2:Int),.bool a3,.int .u64 a4],.bool is]) w'):=qh fun w' h'=>by
  have hA:=HA.out w' h'
  have hb:=(blk_lt hf.1).1
  refine ⟨⟨hA.cells.1,hA.cells.2.2.2.1,hA.cells.2.2.2.2⟩,⟨tt.cell_at (HR.out w' h') 0 _ rfl,tt.cell_at (HR.out w' h') 1 _ rfl,tt.cell_at (HR.out w' h') 3 _ rfl⟩,?_⟩
  have:=hA.look n.b.toNat
  rw [Int.toNat_of_nonneg hb,hx,hi] at this
  exact this
 have e9:(n.k == 9)=false:=by simp;omega
 have e10:(n.k == 10)=false:=by simp;omega
 have e11:(n.k == 11)=false:=by simp;omega
 subst hh
 have hrl:=room_le A.inv.may
 have hfl:=A.full
 have HQ:Hid (∀ w',wb.grownBy w' none→_):=qh fun w' h'=>tt.proom_any F.pb F.pv (room c) H.wt w' (HA.out w' h').pool A.full hrl.2.1
 have e0:((room c:Int) - (H.wt.length:Int) == 0)=false:=by simp;omega
 generalize (room c:Int) - (H.wt.length:Int)=dif at HQ e0
 clear hk hr hrl hfl
 have HHX:=qh hx
 have HHI:=qh hi
 clear A hK hgb hbx hf hx hi
 go_enter Tryz.func10,Tryz.ntmps10
 go_wp2_with (first
  | ((with_reducible refine tt.load_nt n _ w.heap.size ?_ (HR.out _ (grown_refl _ _)) ?_);(rfl))
  | (go_at_call 34;((with_reducible refine (HM.out _ (grown_refl _ _)).mono ?_);rintro e w1 ⟨rfl,hg1⟩;have HG1:=qh hg1;clear hg1)))
 refine wp_region_held_drew (S:=fun w'=>wb.grownBy w' none) (by kernel_rfl) (tt.grown_drew HG1.out) (fun hHeld=>?_)
 generalize w1.drew=wd at hHeld ⊢
 have HD:=qh hHeld
 refine tl 0 ?_ rfl ?_ ?_ (tl 1 ?_ rfl ?_ ?_ (tl 2 ?_ rfl ?_ ?_ (tl 3 ?_ rfl ?_ ?_ (tl 4 ?_ rfl ?_ ?_ ?_))))
 iterate 5 (rotate_left;(next=>(try simp only [lay]);((intro w0 hSw;obtain ⟨⟨hs0,hs1,hs2⟩,⟨hs3,hs4,hs5⟩,hs6⟩:=HK.out w0 hSw;go_simp);try (with_reducible rfl)));next=>rfl)
 try simp only [lay]
 refine tl 5 ?_ rfl ?_ ?_ (tl 6 ?_ rfl ?_ ?_ (tl 7 ?_ rfl ?_ ?_ (tl 8 ?_ rfl ?_ ?_ (tl 9 ?_ rfl ?_ ?_ ?_))))
 iterate 5 (rotate_left;(next=>(try simp only [lay]);((intro w0 hSw;obtain ⟨⟨hs0,hs1,hs2⟩,⟨hs3,hs4,hs5⟩,hs6⟩:=HK.out w0 hSw;go_simp);try (with_reducible rfl)));next=>rfl)
 try simp only [lay]
 refine rd 10 rfl fun K hK=>?_
 go_simp
 refine hK.out _ _ (grown_alloc hHeld _) (fun hHeld=>?_)
 clear hK K
 try simp only [lay]
 refine rd 11 rfl fun K hK=>?_
 go_simp
 refine hK.out _ _ (grown_alloc HD.out _) (fun hHeld=>?_)
 clear hK K
 try simp only [lay]
 refine tl 12 ?_ rfl ?_ ?_ ?_
 (rotate_left;(next=>((intro w0 hSw;go_simp);try (with_reducible rfl)));next=>rfl)
 try simp only [lay]
 refine wpAnyH_done (by kernel_rfl) ?_ _
 obtain ⟨⟨f0,f1,f2⟩,⟨f3,f4,f5⟩,f6⟩:=HK.out wd HD.out
 have hlt:w.heap.size < wd.heap.size:=Nat.lt_of_lt_of_le HX.out HD.out.size
 have hne:¬ w.heap.size=wd.heap.size:=Nat.ne_of_lt hlt
 have hht:h < wd.heap.size:=Nat.lt_trans HL.out hlt
 have hhe:¬ h=wd.heap.size:=Nat.ne_of_lt hht
 go_wp2_with (go_at_call 36;((with_reducible refine (HQ.out _ (grown_alloc HD.out _)).mono ?_);rintro e w5 ⟨rfl,hq5⟩;have HQ5:=qh hq5;clear hq5))
 go_ret
 obtain ⟨nq,rfl⟩:=HQ5.out
 exact ⟨rfl,grown_trans HG.out (tt.grown_drewN (grown_alloc HD.out _) _)⟩
theorem ha_of {m:Nat} {f:Int} (hf:-1 ≤ f∧f ≤ 15) (h0:0 ≤ f):mm.ha m f=m.testBit f.toNat:=by
 unfold mm.ha
 rw [decide_eq_true (p:=0 ≤ f∧f < 32) (by omega),Bool.true_and]
theorem to_home {n:Nt} (hf:fits c n) (ht:n.t=-1):(n.k=1 ∨ n.k=2 ∨ n.k=3 ∨ n.k=9 ∨ n.k=10 ∨ n.k=11)∧0 ≤ n.f∧n.f ≤ 15:=by
 have h1:=hf.1.1
 have hr:=(tt.rule_ok n h1 hf.1.2.1).1 hf.1
 have hT:tt.tH n.k=true:=by
  cases h:tt.tH n.k with
  | true=>rfl
  | false=>
   have:=hr.core
   rw [h] at this
   simp at this
   omega
 have hc:=hr.core
 rw [hT] at hc
 have hT':1 ≤ n.k∧n.k ≤ 3 ∨ 9 ≤ n.k∧n.k ≤ 11:=of_decide_eq_true hT
 simp at hc
 omega
theorem net_asks {k:Int} (h:1 ≤ k∧k ≤ 11):net k=0 ↔ (k=1 ∨ k=2 ∨ k=3):=by
 unfold tt.net
 rw [if_pos h]
 constructor
 ·intro e
  by_cases h3:k ≤ 3
  ·omega
  ·rw [if_neg h3] at e
   split at e <;> simp at e
 ·intro e;rw [if_pos (by omega)]
theorem ready_any (A:HomeAt w h c F H) (hK:tt.TabK w) (n:Nt):Calls Tryz.prog 10 #[.pointer (some ⟨h,0,none⟩),.agg (na n)] w fun e w'=>e = .returned (.int .i64 (ready c H n))∧w.grownBy w' none:=by
 by_cases hf:fits c n∧n.t=-1
 ·obtain ⟨hk,hf0,hf1⟩:=to_home hf.1 hf.2
  unfold ready
  rw [if_neg (fun (e:¬ fits c n ∨ n.t ≠ -1)=>e.elim (fun e=>e hf.1) (fun e=>e hf.2))]
  have hna:=net_asks hf.1.1.1
  have hrl:=room_le A.inv.may
  cases hj:jbOf H n.b.toNat with
  | none=>
   have hx:askOr H n.b.toNat=#[.int .u8 0,.int .i64 0,.int .u32 ((0:Nat):Int),.bool false,.int .u64 0]:=by unfold askOr;rw [hj];rfl
   have hi:(jbOf H n.b.toNat).isSome=false:=by rw [hj];rfl
   rcases hk with hk | hk | hk | hk | hk | hk
   ·rw [if_pos (hna.2 (by omega)),if_neg (by simp)]
    exact ready_new A hK n hf _ _ _ _ _ _ hx hi (by omega) rfl
   ·rw [if_pos (hna.2 (by omega)),if_neg (by simp)]
    exact ready_new A hK n hf _ _ _ _ _ _ hx hi (by omega) rfl
   ·rw [if_pos (hna.2 (by omega)),if_neg (by simp)]
    exact ready_new A hK n hf _ _ _ _ _ _ hx hi (by omega) rfl
   ·rw [if_neg (fun e=>by have:=hna.1 e;omega)]
    exact ready_9_f A hK n hf _ _ _ _ _ _ hx hi hk (by decide) (by rw [ha_of ⟨by omega,hf1⟩ hf0];simp)
   ·rw [if_neg (fun e=>by have:=hna.1 e;omega)]
    exact ready_10_f A hK n hf _ _ _ _ _ _ hx hi hk (by decide) (by rw [ha_of ⟨by omega,hf1⟩ hf0];simp)
   ·rw [if_neg (fun e=>by have:=hna.1 e;omega)]
    exact ready_11_no A hK n hf _ _ _ _ _ _ hx hi hk rfl
  | some j=>
   have hx:askOr H n.b.toNat=#[.int .u8 j.a.k,.int .i64 j.a.f,.int .u32 (j.w:Int),.bool j.r,.int .u64 j.l]:=by unfold askOr;rw [hj];rfl
   have hi:(jbOf H n.b.toNat).isSome=true:=by rw [hj];rfl
   have hjo:=A.inv.jobs _ j (jbOf_get hj)
   have hok:=A.ok _ j (jbOf_get hj)
   have asks:(n.k=1 ∨ n.k=2 ∨ n.k=3)→Calls Tryz.prog 10 #[.pointer (some ⟨h,0,none⟩),.agg (na n)] w fun e w'=>e = .returned (.int .i64 (if (some j).isSome=true∧roomH c ≤ (H.wt.length:Int) then 110 else 0))∧w.grownBy w' none:=fun hk=>by
    by_cases hr:room c ≤ H.wt.length
    ·rw [if_pos ⟨rfl,by omega⟩];exact ready_full A hK n hf _ _ _ _ _ _ hx hi hk rfl hr
    ·rw [if_neg (fun e=>by have:=e.2;omega)];exact ready_wait A hK n hf _ _ _ _ _ _ hx hi hk rfl hr
   have ack:j.d=false∧j.w.testBit n.f.toNat=true ↔ mm.ha j.w n.f=true:=by
    rw [ha_of ⟨by omega,hf1⟩ hf0]
    refine ⟨fun e=>e.2,fun e=>⟨?_,e⟩⟩
    rw [hok]
    exact decide_eq_false (fun e0=>by rw [e0] at e;simp at e)
   rcases hk with hk | hk | hk | hk | hk | hk
   ·rw [if_pos (hna.2 (by omega))];exact asks (by omega)
   ·rw [if_pos (hna.2 (by omega))];exact asks (by omega)
   ·rw [if_pos (hna.2 (by omega))];exact asks (by omega)
   ·rw [if_neg (fun e=>by have:=hna.1 e;omega)]
    dsimp only
    rw [if_neg (by omega)]
    by_cases hh:mm.ha j.w n.f=true
    ·rw [if_pos (ack.2 hh)];exact ready_9_t A hK n hf _ _ _ _ _ _ hx hi hk hjo.w hh
    ·rw [if_neg (fun e=>hh (ack.1 e))];exact ready_9_f A hK n hf _ _ _ _ _ _ hx hi hk hjo.w (by simpa using hh)
   ·rw [if_neg (fun e=>by have:=hna.1 e;omega)]
    dsimp only
    rw [if_neg (by omega)]
    by_cases hh:mm.ha j.w n.f=true
    ·rw [if_pos (ack.2 hh)];exact ready_10_t A hK n hf _ _ _ _ _ _ hx hi hk hjo.w hh
    ·rw [if_neg (fun e=>hh (ack.1 e))];exact ready_10_f A hK n hf _ _ _ _ _ _ hx hi hk hjo.w (by simpa using hh)
   ·rw [if_neg (fun e=>by have:=hna.1 e;omega)]
    dsimp only
    rw [if_pos hk]
    by_cases hw:j.w=0
    ·have hd:j.d=true:=by rw [hok];exact decide_eq_true hw
     by_cases hc:j.a.f=n.f
     ·rw [if_pos ⟨hd,hc⟩];exact ready_11_yes A hK n hf _ _ _ _ _ _ hx hi hk rfl (by rw [hw];rfl) (by simpa using hc)
     ·rw [if_neg (fun e=>hc e.2)];exact ready_11_not A hK n hf _ _ _ _ _ _ hx hi hk rfl (by rw [hw];rfl) (by simpa using hc)
    ·have hd:j.d=false:=by rw [hok];exact decide_eq_false hw
     rw [if_neg (fun e=>by rw [hd] at e;exact absurd e.1 (by decide))]
     exact ready_11_left A hK n hf _ _ _ _ _ _ hx hi hk rfl (by simp;omega)
 ·have hr:ready c H n=2:=by
   unfold ready
   rw [if_pos]
   by_cases h1:fits c n
   ·exact .inr fun e=>hf ⟨h1,e⟩
   ·exact .inl h1
  rw [hr]
  exact ready_bad A hK n hf
end
end Go.Proofs.YtenhdijbcdkfbaaGreatDoor.hh
