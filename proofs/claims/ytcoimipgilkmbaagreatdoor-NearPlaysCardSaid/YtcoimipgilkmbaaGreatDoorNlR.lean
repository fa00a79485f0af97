/-
 slices.Equal of the same notes; the law's helpers. Conditions: as NlA names them.
-/
import Derived.Test.YtcoimipgilkmbaaGreatDoorTl
import Derived.Test.YtcoimipgilkmbaaGreatDoorNlQ
namespace Go.Proofs.YtcoimipgilkmbaaGreatDoor.nl
set_option linter.unusedVariables false
set_option linter.unusedSimpArgs false
set_option maxRecDepth 1000000
set_option maxHeartbeats 16000000
open Go Go.ChangeShapes Go.WideShapes Go.ChangeAt Go.RowKit Go.Shelf
open Go.Proofs.YtcoimipgilkmbaaGreatDoor.nr
open Go.Proofs.YtcoimipgilkmbaaGreatDoor.tt (Cfg Nt na nt zn bare zd fits row tyne lt_of U Tab TabK grown_refl grown_trans grown_alloc grown_setCells grown_drew grown_drewN yes Sl Next flat)
open Go.Proofs.YtcoimipgilkmbaaGreatDoor.kk (Ln St zl la ln cfind cdrop cuse cgoes cwrite cturn cput setAt setOf live fF Shp Cac Kept)
open Go.Proofs.YtcoimipgilkmbaaGreatDoor.bk (Bk rem kills puts putE fd fl Nd Rg dead fresh BkAt)
open Go.Proofs.YtcoimipgilkmbaaGreatDoor.mrk (Ms rdS wrS meets addE Dom MkAt)
open Go.Proofs.YtcoimipgilkmbaaGreatDoor.de (Dl sT gE rF aD LAt)
open Go.Proofs.YtcoimipgilkmbaaGreatDoor.oo (ref)
def vi:Value→Int | .int _ q=>q | _=>0
theorem namedN':∃ (t:TypeId) (m:Nat),Hid (Op.load 37=Op.load t)∧(∀ w,(isAgg t).run Tryz.prog w = .ok true w)∧(∀ w,(sizeOf t).run Tryz.prog w = .ok m w) ∧
  ∀ (g o:Nat) (n:Nt) (w:World),w.rangeAt g o (nt n)→(loadCellsFrom ⟨g,o,none⟩ 0 m #[]).run Tryz.prog w = .ok (na n) w:=by
 obtain ⟨t,m,h1,h2,h3,h4,_,_⟩:=namedN
 exact ⟨t,m,qh h1.out.1,h2,h3,h4⟩
theorem nsl_at {w:World} {ad:Option Addr} {m cap:Nat} {ns:List Nt} (h:SlN w (.slice ad m cap) ns) (k:Nat) (x:Nt) (hk:ns[k]?=some x) :
  ∃ g off,ad=some ⟨g,off,none⟩∧m=ns.length∧w.rangeAt g (off + k * 24) (nt x):=by
 obtain ⟨v0,h0⟩:∃ v,(nt x)[0]?=some v:=⟨_,rfl⟩
 obtain ⟨g,off,ha,hm,hc⟩:=Sl.cellAt h _ _ (tt.flat_at tt.nt_len ns k x 0 v0 hk h0)
 exact ⟨g,off,ha,hm,fun j v hv=>by rw [Nat.add_assoc];exact hc _ _ (tt.flat_at tt.nt_len ns k x j v hk hv)⟩
theorem equal_yes (v1 v2:Value) (ns:List Nt) (w:World) (h1:SlN w v1 ns) (h2:SlN w v2 ns) (hl:ns.length ≤ 65536) :
  Calls Tryz.prog 47 #[v1,v2] w fun e w'=>e = .returned (.bool true)∧w.grownBy w' none:=by
 obtain ⟨ad1,cap1,rfl⟩:=h1.form
 obtain ⟨ad2,cap2,rfl⟩:=h2.form
 obtain ⟨q,hq⟩:∃ q,q=ns.length:=⟨_,rfl⟩
 have HQ:=qh hq
 rw [← hq] at h1 h2 hl ⊢
 have H1:=qh h1
 have H2:=qh h2
 have HLL:=qh hl
 clear h1 h2 hq hl
 go_enter Tryz.func47,Tryz.ntmps47
 go_wp2_with fail
 go_loopw [13] (fun i wr=>∃ j:Nat,j ≤ q∧i = .int .i64 (j:Int)∧w.grownBy wr none) (fun i _=>q - (vi i).toNat)
 case atStart=>exact ⟨0,Nat.zero_le _,rfl,grown_refl _ _⟩
 case round=>
  obtain ⟨j,hj,rfl,hg⟩:=hrel
  have HG:=qh hg
  clear hg
  by_cases hlt:j < q
  ·obtain ⟨x,hx⟩:∃ x,ns[j]?=some x:=⟨_,List.getElem?_eq_getElem (by have:=HQ.out;omega)⟩
   obtain ⟨g1,o1,rfl,_,hr1⟩:=nsl_at (by have:=H1.out.grown HG.out;rw [HQ.out] at this;exact this) j x hx
   obtain ⟨g2,o2,rfl,_,hr2⟩:=nsl_at (by have:=H2.out.grown HG.out;rw [HQ.out] at this;exact this) j x hx
   obtain ⟨t',mm,HTT,hagg,hsize,hld⟩:=namedN'
   have hl1:∀ n,(loadCellsFrom ⟨g1,o1 + j * 24,none⟩ 0 mm #[]).run Tryz.prog (wr.drewN n) = .ok (na x) (wr.drewN n):=fun n=>hld g1 (o1 + j * 24) x _ (tt.range_grown hr1 (grown_drewN (grown_refl _ none) n) (by simp))
   have hl2:∀ n,(loadCellsFrom ⟨g2,o2 + j * 24,none⟩ 0 mm #[]).run Tryz.prog (wr.drewN n) = .ok (na x) (wr.drewN n):=fun n=>hld g2 (o2 + j * 24) x _ (tt.range_grown hr2 (grown_drewN (grown_refl _ none) n) (by simp))
   have hq:∀ w,(binOp .neq 37 (.agg (na x)) (.agg (na x))).run Tryz.prog w = .ok (.bool false) w:=fun w=>by rw [tt.q31n,decide_eq_true rfl];rfl
   have hll:=HLL.out
   clear hr1 hr2 hld hx
   go_wp2_with fail
   rw [HTT.out]
   go_quiet (fail)
   go_wp2_with fail
   go_roundw
   case rel=>exact ⟨j + 1,by omega,by go_num,grown_trans HG.out (grown_drewN (grown_refl _ _) _)⟩
   case measure=>simp [vi];omega
  ·go_wp2_with fail
   go_ret
   exact ⟨rfl,HG.out⟩
def c2:Cfg:=⟨2,1,1,10,1,1,1,0⟩
theorem c2_may:c2.may:=by decide +kernel
def P2:Pm:=⟨c2,0,8,1⟩
theorem P2_ok:Pok P2:=⟨c2_may,by decide +kernel,rfl,Int.le_refl _,by decide +kernel⟩
theorem two_any (w:World):Calls Tryz.prog 9 #[] w fun e w'=>e = .returned (.agg c2.cells)∧w.grownBy w' none:=by
 go_enter Tryz.func9,Tryz.ntmps9
 go_wp2
 refine bodyPost_ret (v:= .agg c2.cells) (results_cell_row rfl _ _ w.heap.size 27 c2.cells (0,0) _ rfl (heap_alloc_new _ _) Tryz.underlying27 rfl (by kernel_rfl)) rfl ⟨rfl,grown_alloc (grown_refl _ _) _⟩
def upN (kd b:Int):Nt:=bare kd 0 (-1) b 0 0 false false
def dnN (kd b:Int):Nt:=bare kd (-1) 0 b 0 0 false false
def givenN (b s:Int):Nt:=⟨6,-1,0,b,0,s,true,false,zd,rfl⟩
theorem up_any (kd b:Int) (w:World):Calls Tryz.prog 12 #[.int .u8 kd,.int .i64 b] w fun e w'=>e = .returned (.agg (na (upN kd b)))∧w.grownBy w' none:=by
 have HB:Hid ((w.alloc (.cells (na zn) 37)).heap[w.heap.size]?=some (.cells (na zn) 37 (0,0))):=qh (heap_alloc_new _ _)
 have HG:Hid (w.grownBy (w.alloc (.cells (na zn) 37)) none):=qh (grown_alloc (grown_refl _ _) _)
 rw [zn_na] at HB HG
 go_enter Tryz.func12,Tryz.ntmps12
 go_wp2_with (first
  | ((with_reducible refine tt.store_any (upN kd b) (na zn) 4 7 w.heap.size ?_ ?_ ?_ ?_ ?_);((rfl));((rfl));((exact HB.out));((rfl))))
 exact ret_nt1 rfl (x:=upN kd b) (g:=w.heap.size) rfl (setRow_heap _ _ _ _ _ _ HB.out) ⟨rfl,tt.grown_setRow HG.out _ (Nat.le_refl _) _⟩
theorem down_any (kd b:Int) (w:World):Calls Tryz.prog 17 #[.int .u8 kd,.int .i64 b] w fun e w'=>e = .returned (.agg (na (dnN kd b)))∧w.grownBy w' none:=by
 have HB:Hid ((w.alloc (.cells (na zn) 37)).heap[w.heap.size]?=some (.cells (na zn) 37 (0,0))):=qh (heap_alloc_new _ _)
 have HG:Hid (w.grownBy (w.alloc (.cells (na zn) 37)) none):=qh (grown_alloc (grown_refl _ _) _)
 rw [zn_na] at HB HG
 go_enter Tryz.func17,Tryz.ntmps17
 go_wp2_with (first
  | ((with_reducible refine tt.store_any (dnN kd b) (na zn) 4 7 w.heap.size ?_ ?_ ?_ ?_ ?_);((rfl));((rfl));((exact HB.out));((rfl))))
 exact ret_nt1 rfl (x:=dnN kd b) (g:=w.heap.size) rfl (setRow_heap _ _ _ _ _ _ HB.out) ⟨rfl,tt.grown_setRow HG.out _ (Nat.le_refl _) _⟩
theorem given_any (b s:Int) (w:World):Calls Tryz.prog 14 #[.int .i64 b,.int .u8 s] w fun e w'=>e = .returned (.agg (na (givenN b s)))∧w.grownBy w' none:=by
 have HG:Hid (w.grownBy (w.alloc (.cells (na zn) 37)) none):=qh (grown_alloc (grown_refl _ _) _)
 have HB:Hid (∀ w1,(w.alloc (.cells (na zn) 37)).grownBy w1 none→w1.heap[w.heap.size]?=some (.cells (na zn) 37 (0,0))∧w.grownBy w1 none):=qh fun w1 hg=>⟨(hg.block _ (by simp) (by simp)).trans (heap_alloc_new _ _),grown_trans HG.out hg⟩
 have HD:=qh (down_any 6 b (w.alloc (.cells (na zn) 37)))
 have HV:Hid (∀ w1:World,w.grownBy w1 none→_):=qh fun w1 hg=>var_nt (w:=w) (w1:=w1) hg (dnN 6 b)
 rw [zn_na] at HB HD HG HV
 go_enter Tryz.func14,Tryz.ntmps14
 go_upto_region 2 with (first
  | (go_at_call 17;((with_reducible refine HD.out.mono ?_);rintro e w1 ⟨rfl,hg1⟩;have H1:=qh (HB.out w1 hg1);have HV1:=qh (HV.out w1 H1.out.2);clear hg1))
  | ((with_reducible refine tt.store_any (dnN 6 b) (na zn) 5 7 w1.heap.size ?_ ?_ ?_ ?_ ?_);((rfl));((rfl));((exact HV1.out.1));((rfl))))
 obtain ⟨G,hG⟩:∃ x,w1.heap.size=x:=⟨_,rfl⟩
 have hGw:w.heap.size < G:=by rw [← hG];exact lt_of H1.out.1
 obtain ⟨w2,hw2⟩:∃ x,(w1.alloc (.cells (na zn) 37)).setRow w1.heap.size (na (dnN 6 b))=x:=⟨_,rfl⟩
 have hb2:w2.heap[G]?=some (on (dnN 6 b)):=by rw [← hw2,← hG];exact setRow_heap _ _ _ _ _ _ (heap_alloc_new _ _)
 have hz2:w2.heap[w.heap.size]?=some (on zn):=by
  rw [← hw2]
  exact (setRow_other _ _ _ _ (by omega)).trans (((grown_alloc (grown_refl w1 none) _).block _ (lt_of H1.out.1) (by simp)).trans H1.out.1)
 have hg2:w.grownBy w2 none:=by rw [← hw2];exact tt.grown_setRow (grown_alloc H1.out.2 _) _ H1.out.2.size _
 rw [zn_na] at hw2
 rw [hw2,hG]
 have s5:w2.cell? ⟨G,5,none⟩=some (.int .u8 0):=(cell_of_row _ _ _ _ _ _ hb2).trans rfl
 have f5:w2.frozen? ⟨G,5,none⟩=false:=frozen_of_row _ _ _ _ _ hb2
 obtain ⟨w3,hw3⟩:∃ x,w2.setCell ⟨G,5,none⟩ (.int .u8 s)=x:=⟨_,rfl⟩
 have hb3:w3.heap[G]?=some (on ⟨6,-1,0,b,0,s,false,false,zd,rfl⟩):=by
  rw [← hw3]
  obtain ⟨hlt,hk⟩:=Array.getElem?_eq_some_iff.1 hb2
  show (w2.heap.modify G _)[G]?=_
  rw [Array.getElem?_eq_getElem (by rw [Array.size_modify];exact hlt),Array.getElem_modify_self,hk]
  simp [on,na,nt,dnN,bare]
 have s6:w3.cell? ⟨G,6,none⟩=some (.bool false):=(cell_of_row _ _ _ _ _ _ hb3).trans rfl
 have f6:w3.frozen? ⟨G,6,none⟩=false:=frozen_of_row _ _ _ _ _ hb3
 have hb4:(w3.setCell ⟨G,6,none⟩ (.bool true)).heap[G]?=some (on (givenN b s)):=set_h hb3 true
 have g3:w2.grownBy w3 (some G):=hw3 ▸ kk.grown_setCell w2 G 5 _
 have g4:=kk.grown_setCell w3 G 6 (.bool true)
 have hz4:(w3.setCell ⟨G,6,none⟩ (.bool true)).heap[w.heap.size]?=some (on zn):=(g4.block _ (by have:=lt_of hz2;have:=g3.size;omega) (by simp;omega)).trans ((g3.block _ (lt_of hz2) (by simp;omega)).trans hz2)
 have hg4:w.grownBy (w3.setCell ⟨G,6,none⟩ (.bool true)) none:=tt.grown_new hg2 (by omega) (grown_trans g3 g4)
 have rN:=tt.range_of hb4
 have HG4:=qh hg4
 have HZ4:=qh hz4
 clear hb2 hz2 hg2 hb3 hb4 g3 g4 hz4 hg4 hGw hw2
 go_wp2_with (first
  | ((with_reducible refine tt.load_nt (givenN b s) 5 G ?_ rN ?_);((rfl)))
  | ((with_reducible refine tt.store_any (givenN b s) (na zn) 4 11 w.heap.size ?_ ?_ ?_ ?_ ?_);((rfl));((rfl));((exact HZ4.out));((rfl))))
 exact ret_nt1 rfl (x:=givenN b s) (g:=w.heap.size) rfl (setRow_heap _ _ _ _ _ _ HZ4.out) ⟨rfl,tt.grown_setRow HG4.out _ (Nat.le_refl _) _⟩
section
variable {w0 w:World} {L:LL} {P:Pm} {k:Nr} (o:Own w0 w L P k) (I:Inv P k) (hP:Pok P)
include o I
theorem asks_any (b:Int) (wr:Bool) (l:List Nt) (sl:Value) (hsl:OutN w0 w sl l) (hl:l.length ≤ 65536) (hE:askE P k b wr=0) (hR:askR P k b wr=false) (hO:askO P k b wr=l):Calls Tryz.prog 11 #[.pointer (some ⟨L.q,0,none⟩),.int .i64 b,.bool wr,sl] w fun e w'=>e = .returned (.bool true)∧Own w0 w' L P (askS P k b wr)∧Far L w w':=by
 have HA:=qh (own_ask o I b wr)
 rw [hE,hR,hO] at HA
 have HEQ:Hid (∀ s w',OutN w w' s l→Far L w w'→_):=qh fun s w' ho hf=>equal_yes s sl l w' ho.sl (hf.sl hsl).sl hl
 clear o I hE hR hO hsl hl
 go_enter Tryz.func11,Tryz.ntmps11
 go_wp2_with (first
  | (go_at_call 16;((with_reducible refine HA.out.mono ?_);rintro e w1 ⟨s,rfl,ho,hw,hf⟩;have HE:=qh (HEQ.out s w1 ho hf);have HW:=qh hw;have HF:=qh hf;clear ho hw hf))
  | (go_at_call 47;((with_reducible refine HE.out.mono ?_);rintro e w2 ⟨rfl,hg2⟩;have HG2:=qh hg2;clear hg2)))
 go_ret
 exact ⟨rfl,HW.out.grown HG2.out,⟨fun g cs t fr hg hf=>(HG2.out.block _ (Nat.lt_of_lt_of_le (lt_of hg) HF.out.size) (by simp)).trans (HF.out.cs g cs t fr hg hf),fun g es cl hg hn=>(HG2.out.block _ (Nat.lt_of_lt_of_le (lt_of hg) HF.out.size) (by simp)).trans (HF.out.mp g es cl hg hn),Nat.le_trans HF.out.size HG2.out.size⟩⟩
include hP
theorem takes_any (n:Nt) (l:List Nt) (sl:Value) (hsl:OutN w0 w sl l) (hl:l.length ≤ 65536) (hE:takeE P k n=0) (hG:takeG P k n=false) (hO:takeO P k n=l):Calls Tryz.prog 13 #[.pointer (some ⟨L.q,0,none⟩),.agg (na n),sl] w fun e w'=>e = .returned (.bool true)∧Own w0 w' L P (takeS P k n)∧Far L w w':=by
 have hg0:w.grownBy (w.alloc (.cells (na n) 37)) none:=grown_alloc (grown_refl _ _) _
 have HA:=qh (own_take (o.grown hg0) I hP n)
 rw [hE,hG,hO] at HA
 have r0:=tt.range_of (heap_alloc_new w (.cells (na n) 37))
 have HEQ:Hid (∀ s w',OutN (w.alloc (.cells (na n) 37)) w' s l→Far L (w.alloc (.cells (na n) 37)) w'→_):=qh fun s w' ho hf=>equal_yes s sl l w' ho.sl (hf.sl (hsl.grown hg0)).sl hl
 have HFF:Hid (∀ w',Far L (w.alloc (.cells (na n) 37)) w'→Far L w w'):=qh fun w' hf=>⟨fun g cs t fr hg h=>hf.cs g cs t fr ((hg0.block _ (lt_of hg) (by simp)).trans hg) h,fun g es cl hg h=>hf.mp g es cl ((hg0.block _ (lt_of hg) (by simp)).trans hg) h,Nat.le_trans hg0.size hf.size⟩
 clear o I hP hE hG hO hsl hl
 go_enter Tryz.func13,Tryz.ntmps13
 go_wp2_with (first
  | ((with_reducible refine tt.load_nt n 4 w.heap.size ?_ r0 ?_);((rfl)))
  | (go_at_call 20;((with_reducible refine HA.out.mono ?_);rintro e w1 ⟨s,rfl,ho,hw,hf⟩;have HE:=qh (HEQ.out s w1 ho hf);have HW:=qh hw;have HF:=qh (HFF.out w1 hf);clear ho hw hf))
  | (go_at_call 47;((with_reducible refine HE.out.mono ?_);rintro e w2 ⟨rfl,hg2⟩;have HG2:=qh hg2;clear hg2)))
 go_ret
 exact ⟨rfl,HW.out.grown HG2.out,⟨fun g cs t fr hg hf=>(HG2.out.block _ (Nat.lt_of_lt_of_le (lt_of hg) HF.out.size) (by simp)).trans (HF.out.cs g cs t fr hg hf),fun g es cl hg hn=>(HG2.out.block _ (Nat.lt_of_lt_of_le (lt_of hg) HF.out.size) (by simp)).trans (HF.out.mp g es cl hg hn),Nat.le_trans HF.out.size HG2.out.size⟩⟩
end
end Go.Proofs.YtcoimipgilkmbaaGreatDoor.nl
