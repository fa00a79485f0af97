/-
  The law's function works. Conditions: as NlA names them.
  A script's call in a variable; the state of a law's round. Conditions: as NlA names them.
-/
import Derived.Test.YtcoimipgilkmbaaGreatDoorTl
import Derived.Test.YtcoimipgilkmbaaGreatDoorNlR
import Derived.Test.YtcoimipgilkmbaaGreatDoorNlT
namespace Go.Proofs.YtcoimipgilkmbaaGreatDoor.nl
set_option linter.unusedVariables false
set_option linter.unusedSimpArgs false
set_option maxRecDepth 1000000
set_option maxHeartbeats 16000000
open Go Go.ChangeShapes Go.WideShapes Go.ChangeAt Go.RowKit Go.Shelf
open Go.Proofs.YtcoimipgilkmbaaGreatDoor.nr
open Go.Proofs.YtcoimipgilkmbaaGreatDoor.tt (Cfg Nt na nt zn bare zd fits row tyne lt_of U Tab TabK grown_refl grown_trans grown_alloc grown_setCells grown_drew grown_drewN yes Sl Next flat)
open Go.Proofs.YtcoimipgilkmbaaGreatDoor.kk (Ln St zl la ln cfind cdrop cuse cgoes cwrite cturn cput setAt setOf live fF Shp Cac Kept)
open Go.Proofs.YtcoimipgilkmbaaGreatDoor.bk (Bk rem kills puts putE fd fl Nd Rg dead fresh BkAt)
open Go.Proofs.YtcoimipgilkmbaaGreatDoor.mrk (Ms rdS wrS meets addE Dom MkAt)
open Go.Proofs.YtcoimipgilkmbaaGreatDoor.de (Dl sT gE rF aD LAt)
open Go.Proofs.YtcoimipgilkmbaaGreatDoor.oo (ref)
theorem own_one {w0 w:World} {L:LL} {P:Pm} {k:Nr} (o:Own w0 w L P k) (n:Nt):Own w0 (w.alloc (.cells (na n) 37)) L P k∧OutN w0 (w.alloc (.cells (na n) 37)) (.slice (some ⟨w.heap.size,0,none⟩) 1 1) [n]:=by
 refine ⟨o.grown (grown_alloc (grown_refl _ _) _),⟨.inr ⟨w.heap.size,0,1,na n,rfl,heap_alloc_new _ _,?_,Nat.le_refl _,by unfold maxLen;omega,?_,fun j x hx=>?_⟩,fun g hg=>?_⟩⟩
 ·rw [tt.flat_single,tt.nt_len];rfl
 ·rw [tt.na_size];decide
 ·rw [tt.flat_single] at hx
  rw [Nat.zero_add,na,List.getElem?_toArray];exact hx
 ·simp [Value.ownBlock] at hg
  subst hg
  exact o.old.size
def k0:Nr:=newS P2
def k1:Nr:=askS P2 k0 3 true
def k2:Nr:=takeS P2 k1 (givenN 3 3)
def k3:Nr:=storeS P2 k2 3 0 7
theorem I0:Inv P2 k0:=Inv.newS P2_ok
theorem I1:Inv P2 k1:=I0.askS P2_ok 3 true
theorem I2:Inv P2 k2:=I1.takeS P2_ok
theorem e1:askE P2 k0 3 true=0:=by decide +kernel
theorem r1:askR P2 k0 3 true=false:=by decide +kernel
theorem g1:goesOut P2 k0 3 true=true:=by decide +kernel
theorem b1:back P2 k0 3=false:=by decide +kernel
theorem o1:askO P2 k0 3 true=[upN 2 3]:=by unfold askO;rw [g1,b1];rfl
theorem e2:takeE P2 k1 (givenN 3 3)=0:=by decide +kernel
theorem o2:takeO P2 k1 (givenN 3 3)=[upN 11 3]:=by unfold takeO;rw [e2];rfl
theorem q2:takeG P2 k1 (givenN 3 3)=false:=by decide +kernel
theorem e3:storeE P2 k2 3 0 7=0:=by decide +kernel
theorem v3:storeV P2 k2 3 0 7=0:=by decide +kernel
theorem e4:loadE P2 k3 3 0=0:=by decide +kernel
theorem v4:loadV P2 k3 3 0=7:=by decide +kernel
theorem works_any (w:World) (hT:Tb w):Calls Tryz.prog 10 #[] w fun e w'=>e = .returned (.bool true)∧w.grownBy w' none:=by
 have HTW:=qh (two_any w)
 have HNW:Hid (∀ w1,w.grownBy w1 none→Calls Tryz.prog 8 #[.agg c2.cells,.int .i64 0] w1 fun e w'=>∃ L:LL,e = .returned (.tuple #[.pointer (some ⟨L.q,0,none⟩),.int .i64 0])∧Own w w' L P2 k0):=qh fun w1 hg=>(own_new P2 P2_ok w1 (hT.grown hg)).mono fun e w' ⟨L,he,ho⟩=>⟨L,he,ho.from hg⟩
 have HUP:=qh fun kd b W=>up_any kd b W
 have HGV:=qh fun W=>given_any 3 3 W
 obtain ⟨nA,hnA⟩:∃ n,upN 2 3=n:=⟨_,rfl⟩
 obtain ⟨nB,hnB⟩:∃ n,upN 11 3=n:=⟨_,rfl⟩
 obtain ⟨nG,hnG⟩:∃ n,givenN 3 3=n:=⟨_,rfl⟩
 have HUA:Hid (∀ W:World,Calls Tryz.prog 12 #[.int .u8 2,.int .i64 3] W fun e w'=>e = .returned (.agg (na nA))∧W.grownBy w' none):=qh fun W=>hnA ▸ up_any 2 3 W
 have HUB:Hid (∀ W:World,Calls Tryz.prog 12 #[.int .u8 11,.int .i64 3] W fun e w'=>e = .returned (.agg (na nB))∧W.grownBy w' none):=qh fun W=>hnB ▸ up_any 11 3 W
 have HGB:Hid (∀ W:World,Calls Tryz.prog 14 #[.int .i64 3,.int .u8 3] W fun e w'=>e = .returned (.agg (na nG))∧W.grownBy w' none):=qh fun W=>hnG ▸ given_any 3 3 W
 have HAS:Hid (∀ W L sl,Own w W L P2 k0→OutN w W sl [nA]→Calls Tryz.prog 11 #[.pointer (some ⟨L.q,0,none⟩),.int .i64 3,.bool true,sl] W fun e w'=>e = .returned (.bool true)∧Own w w' L P2 k1∧Far L W w'):=qh fun W L sl o hsl=>asks_any o I0 3 true [nA] sl hsl (by simp) e1 r1 (by rw [← hnA];exact o1)
 have HTK:Hid (∀ W L sl,Own w W L P2 k1→OutN w W sl [nB]→Calls Tryz.prog 13 #[.pointer (some ⟨L.q,0,none⟩),.agg (na nG),sl] W fun e w'=>e = .returned (.bool true)∧Own w w' L P2 k2∧Far L W w'):=qh fun W L sl o hsl=>by
  rw [← hnG]
  exact takes_any o I1 P2_ok (givenN 3 3) [nB] sl hsl (by simp) e2 q2 (by rw [← hnB];exact o2)
 have HST:Hid (∀ W L,Own w W L P2 k2→Calls Tryz.prog 15 #[.pointer (some ⟨L.q,0,none⟩),.int .i64 3,.int .i64 0,.int .u32 7] W fun e w'=>e = .returned (.tuple #[.int .u32 0,.int .i64 0])∧Own w w' L P2 k3∧Far L W w'):=qh fun W L o=>by
  have:=own_store o 3 0 7
  rw [e3,v3] at this
  exact this
 have HLD:Hid (∀ W L,Own w W L P2 k3→Calls Tryz.prog 19 #[.pointer (some ⟨L.q,0,none⟩),.int .i64 3,.int .i64 0] W fun e w'=>e = .returned (.tuple #[.int .u32 7,.int .i64 0])∧w.grownBy w' none):=qh fun W L o=>by
  have:=own_load o 3 0
  rw [e4,v4] at this
  exact this.mono fun e w' hh=>⟨hh.1,hh.2.1.old⟩
 have HON:=qh fun W L k n (o:Own w W L P2 k)=>own_one o n
 have sA:=tt.na_size nA
 have sB:=tt.na_size nB
 have fA:=fold_nt nA
 have fB:=fold_nt nB
 clear hT hnA hnB hnG HUP HGV
 unfold Cfg.cells at HTW HNW
 go_enter Tryz.func10,Tryz.ntmps10
 go_wp2_with (first
  | (go_at_call 9;((with_reducible refine HTW.out.mono ?_);rintro e w1 ⟨rfl,hg1⟩;have HG1:=qh hg1;clear hg1))
  | (go_at_call 8;((with_reducible refine (HNW.out _ HG1.out).mono ?_);rintro e w2 ⟨L,rfl,ho2⟩;have H2:=qh ho2;clear ho2))
  | (go_at_call 12;(first | ((with_reducible refine (HUA.out _).mono ?_);rintro e w3 ⟨rfl,hg3⟩;have H3:=qh (HON.out _ _ _ nA (H2.out.grown hg3));clear hg3) | ((with_reducible refine (HUB.out _).mono ?_);rintro e w6 ⟨rfl,hg6⟩;have H6:=qh (HON.out _ _ _ nB (H5.out.grown hg6));clear hg6)))
  | (go_at_call 11;((with_reducible refine (HAS.out _ _ _ H3.out.1 H3.out.2).mono ?_);rintro e w4 ⟨rfl,ho4,hf4⟩;have H4:=qh ho4;clear ho4 hf4))
  | (go_at_call 14;((with_reducible refine (HGB.out _).mono ?_);rintro e w5 ⟨rfl,hg5⟩;have H5:=qh (H4.out.grown hg5);clear hg5))
  | (go_at_call 13;((with_reducible refine (HTK.out _ _ _ H6.out.1 H6.out.2).mono ?_);rintro e w7 ⟨rfl,ho7,hf7⟩;have H7:=qh ho7;clear ho7 hf7))
  | (go_at_call 15;((with_reducible refine (HST.out _ _ H7.out).mono ?_);rintro e w8 ⟨rfl,ho8,hf8⟩;have H8:=qh ho8;clear ho8 hf8))
  | (go_at_call 19;((with_reducible refine (HLD.out _ _ H8.out).mono ?_);rintro e w9 ⟨rfl,hg9⟩;have HG9:=qh hg9;clear hg9)))
 go_ret
 exact ⟨rfl,HG9.out⟩
end Go.Proofs.YtcoimipgilkmbaaGreatDoor.nl

namespace Go.Proofs.YtcoimipgilkmbaaGreatDoor.nl
set_option linter.unusedVariables false
set_option linter.unusedSimpArgs false
set_option maxRecDepth 1000000
set_option maxHeartbeats 16000000
open Go Go.ChangeShapes Go.WideShapes Go.ChangeAt Go.RowKit Go.Shelf
open Go.Proofs.YtcoimipgilkmbaaGreatDoor.nr
open Go.Proofs.YtcoimipgilkmbaaGreatDoor.tt (OpX opc OpsAt cfg_at CfgAt Cfg Nt na nt zn bare zd fits row tyne lt_of U Tab TabK grown_refl grown_trans grown_alloc grown_setCells grown_drew grown_drewN yes Sl Next flat)
open Go.Proofs.YtcoimipgilkmbaaGreatDoor.kk (Ln St zl la ln cfind cdrop cuse cgoes cwrite cturn cput setAt setOf live fF Shp Cac Kept)
open Go.Proofs.YtcoimipgilkmbaaGreatDoor.bk (Bk rem kills puts putE fd fl Nd Rg dead fresh BkAt)
open Go.Proofs.YtcoimipgilkmbaaGreatDoor.mrk (Ms rdS wrS meets addE Dom MkAt)
open Go.Proofs.YtcoimipgilkmbaaGreatDoor.de (Dl sT gE rF aD LAt)
open Go.Proofs.YtcoimipgilkmbaaGreatDoor.oo (ref)
def opa (q:OpX):Array Value:=(opc q).toArray
theorem opc_len (q:OpX):(opc q).length=29:=by simp [opc,tt.nt_len]
theorem opa_size (q:OpX):(opa q).size=29:=by simp [opa,opc_len]
theorem opc_one (q:OpX):∀ v ∈ opc q,v.oneCell'=true:=by
 intro v hv
 simp only [opc,List.mem_cons] at hv
 rcases hv with rfl | rfl | rfl | rfl | rfl | hv
 ·rfl
 ·rfl
 ·rfl
 ·rfl
 ·rfl
 ·exact tt.nt_one q.n v hv
theorem infoOp:(Tryz.prog.info? 65).map (·.size)=some 29:=by kernel_rfl
abbrev oq (q:OpX):Obj:= .cells (opa q) 65
def opz:OpX:=⟨0,0,0,false,0,zn⟩
theorem opz_na:opa opz=#[.int .i64 0,.int .i64 0,.int .i64 0,.bool false,.int .u32 0,.int .u8 0,.int .i64 0,.int .i64 0,.int .i64 0,.int .u64 0,.int .u8 0,.bool false,.bool false,.int .u32 0,.int .u32 0,.int .u32 0,.int .u32 0,.int .u32 0,.int .u32 0,.int .u32 0,.int .u32 0,.int .u32 0,.int .u32 0,.int .u32 0,.int .u32 0,.int .u32 0,.int .u32 0,.int .u32 0,.int .u32 0]:=rfl
section
variable {w:World} {ops:Array Oper} {rest:List Oper} {a:Act} {Q:Exit→Act→World→Prop} {dst:Option Tmp} {ty:TypeId} {pos:String} {after:Array Edge}
theorem load_op (q:OpX) (x:Tmp) (g o:Nat) (hx:a.eval (.tmp x) = .pointer (some ⟨g,o,none⟩)) (hr:w.rangeAt g o (opc q)) (h:wpList Tryz.prog ops Q rest (a.put dst (.agg (opa q))) w):wpList Tryz.prog ops Q (⟨dst,.load 65 (.tmp x),ty,pos,after,none⟩ :: rest) a w:=
 wpList_load_mid rfl 65 (.tmp x) rfl g o hx (opc q) _ hr Tryz.underlying65 rfl (by rw [opc_len];exact infoOp) h
theorem store_op (q:OpX) (x y:Tmp) (g:Nat) (hx:a.eval (.tmp x) = .pointer (some ⟨g,0,none⟩)) (hy:a.eval (.tmp y) = .agg (opa q)) (hg:∃ c:Array Value,w.heap[g]?=some (.cells c 65 (0,0))∧c.size=29) (h:wpList Tryz.prog ops Q rest (a.put dst undef) (w.setCells g 0 (opc q))):wpList Tryz.prog ops Q (⟨dst,.store 65 (.tmp x) (.tmp y),ty,pos,after,none⟩ :: rest) a w:=by
 obtain ⟨c,hb,hc⟩:=hg
 refine wpList_store_mid rfl 65 (.tmp x) (.tmp y) rfl g 0 (opa q) hx hy (by rw [opa_size];exact there_at hb (by omega)) (by rw [opa_size];exact infoOp) (all_oneCell_toArray (opc_one q)) ?_
 exact h
end
structure St (w W:World) (L:LL) (P:Pm) (k:Nr) (X:Nat) (q:OpX) (Ns:List (Nat × Nt)):Prop where
 own:Own w W L P k
 bx:W.heap[X]?=some (oq q)
 ns:∀ p ∈ Ns,W.heap[p.1]?=some (on p.2)
section
variable {w W W':World} {L:LL} {P:Pm} {k k':Nr} {X:Nat} {q:OpX} {Ns:List (Nat × Nt)} (s:St w W L P k X q Ns)
include s
theorem St.grown (hg:W.grownBy W' none):St w W' L P k X q Ns:=⟨s.own.grown hg,(hg.block _ (lt_of s.bx) (by simp)).trans s.bx,fun p hp=>(hg.block _ (lt_of (s.ns p hp)) (by simp)).trans (s.ns p hp)⟩
theorem St.far (o:Own w W' L P k') (f:Far L W W'):St w W' L P k' X q Ns:=⟨o,f.cs _ _ _ _ s.bx (by decide),fun p hp=>f.cs _ _ _ _ (s.ns p hp) (by decide)⟩
theorem St.varN (n:Nt):St w ((W.alloc (.cells (na zn) 37)).setRow W.heap.size (na n)) L P k X q ((W.heap.size,n) :: Ns):=by
 have hg:W.grownBy ((W.alloc (.cells (na zn) 37)).setRow W.heap.size (na n)) none:=tt.grown_setRow (grown_alloc (grown_refl _ _) _) _ (Nat.le_refl _) _
 have s2:=s.grown hg
 refine ⟨s2.own,s2.bx,fun p hp=>?_⟩
 rcases List.mem_cons.1 hp with rfl | hp
 ·exact setRow_heap _ _ _ _ _ _ (heap_alloc_new _ _)
 ·exact s2.ns p hp
theorem St.cell (i:Nat) (v:Value) (hv:(opc q)[i]?=some v):W.cell? ⟨X,i,none⟩=some v:=(cell_of_row _ _ _ _ _ _ s.bx).trans (by rw [opa,List.getElem?_toArray];exact hv)
theorem St.cells:W.cell? ⟨X,0,none⟩=some (.int .i64 q.kd)∧W.cell? ⟨X,1,none⟩=some (.int .i64 q.b)∧W.cell? ⟨X,2,none⟩=some (.int .i64 q.w)∧W.cell? ⟨X,3,none⟩=some (.bool q.y)∧W.cell? ⟨X,4,none⟩=some (.int .u32 q.x)∧W.cell? ⟨X,5,none⟩=some (.int .u8 q.n.k)∧W.cell? ⟨X,8,none⟩=some (.int .i64 q.n.b):=
 ⟨s.cell 0 _ rfl,s.cell 1 _ rfl,s.cell 2 _ rfl,s.cell 3 _ rfl,s.cell 4 _ rfl,s.cell 5 _ rfl,s.cell 8 _ rfl⟩
theorem St.note:W.rangeAt X 5 (nt q.n):=fun j v hv=>s.cell (5 + j) v (by rw [opc,show 5 + j=j + 5 from Nat.add_comm _ _];exact hv)
theorem St.rangeN {g:Nat} {n:Nt} (hm:(g,n) ∈ Ns):W.rangeAt g 0 (nt n):=tt.range_of (s.ns _ hm)
theorem St.cellN {g:Nat} {n:Nt} (hm:(g,n) ∈ Ns) (i:Nat) (v:Value) (hv:(nt n)[i]?=some v):W.cell? ⟨g,i,none⟩=some v:=tt.cell_at (s.rangeN hm) i v hv
end
theorem St.new {w W:World} {L:LL} {P:Pm} {k:Nr} (o:Own w W L P k) (q:OpX):(∃ c:Array Value,(W.alloc (.cells (opa opz) 65)).heap[W.heap.size]?=some (.cells c 65 (0,0))∧c.size=29)∧St w ((W.alloc (.cells (opa opz) 65)).setCells W.heap.size 0 (opc q)) L P k W.heap.size q []:=by
 have hg:W.grownBy ((W.alloc (.cells (opa opz) 65)).setCells W.heap.size 0 (opc q)) none:=tt.grown_new (grown_alloc (grown_refl _ _) _) (Nat.le_refl _) (grown_setCells _ _ _ _)
 refine ⟨⟨_,heap_alloc_new _ _,opa_size _⟩,o.grown hg,?_,by simp⟩
 have:=filled (heap_alloc_new W (.cells (opa opz) 65)) (vs:=opc q) (by rw [opc_len,opa_size])
 exact this
end Go.Proofs.YtcoimipgilkmbaaGreatDoor.nl
