/-
 What the listed variables (the tables of bounds and of kinds) give a walk: their cells; that the heap which the program's own initialiser leaves meets the condition; how a plan and a script as arguments read. No condition.
-/
import Derived.Test.YtcoimipgilkmbaaGreatDoorTl
import Derived.Test.YtcoimipgilkmbaaGreatDoorNax
import Derived.ProofKit
import Derived.LaidMore
import Derived.OpenShut
import Derived.Stop.Joined
import Derived.Deep.Grids
namespace Go.Proofs.YtcoimipgilkmbaaGreatDoor.tt
set_option linter.unusedVariables false
set_option linter.unusedSimpArgs false
set_option maxRecDepth 1000000
set_option maxHeartbeats 16000000
open Go Go.ChangeShapes Go.WideShapes Go.ChangeAt Go.RowKit
def laid1:List (String × DataW Unit):=Rows.nearKnownRow.laid
theorem own:ownKnob Tryz.prog.godebug=none:=by kernel_rfl
theorem laidOut:laidOutB Tryz.prog=true:=by kernel_rfl
theorem gKinds:(laid1.head?.bind fun x=>Tryz.prog.globalNamed x.1)=some 1:=by kernel_rfl
theorem gTab:((laid1.drop 1).head?.bind fun x=>Tryz.prog.globalNamed x.1)=some 0:=by kernel_rfl
theorem tKinds:(Tryz.prog.globals[1]?).map (·.type)=some 195:=by kernel_rfl
theorem tTab:(Tryz.prog.globals[0]?).map (·.type)=some 146:=by kernel_rfl
theorem door_met (os:Os) (args:Array Value):laidMetH Tryz.prog laid1 ((World.doorLaid Tryz.prog 400 os).forCall (fun _ _=>0) ⟨#[],args,[]⟩).memory:=
 laidMetH_of_parts3 (fuel:=8) (laidMet_of_run' 8 (by kernel_rfl) (by kernel_rfl)) (by kernel_rfl) (by kernel_rfl)
theorem cells3:Tryz.prog.cellsOf 3=1:=by kernel_rfl
theorem cells4:Tryz.prog.cellsOf 4=1:=by kernel_rfl
theorem cells5:Tryz.prog.cellsOf 5=1:=by kernel_rfl
theorem cellsSt:Tryz.prog.cellsOf 31=1:=by kernel_rfl
theorem cellsS:Tryz.prog.cellsOf 32=1:=by kernel_rfl
theorem cellsW:Tryz.prog.cellsOf 33=1:=by kernel_rfl
theorem cellsD:Tryz.prog.cellsOf 35=16:=by kernel_rfl
theorem cellsN:Tryz.prog.cellsOf 37=24:=by kernel_rfl
theorem cellsU:Tryz.prog.cellsOf 194=1:=by kernel_rfl
theorem cellsB:Tryz.prog.cellsOf 145=3:=by kernel_rfl
theorem cellsC:Tryz.prog.cellsOf 27=8:=by kernel_rfl
theorem cellsO:Tryz.prog.cellsOf 65=29:=by kernel_rfl
def kdata:List (DataW Unit):=(List.range 12).map fun k=> .lit (.int .u8 (kinds.getD k 0))
theorem kdatum:(Rows.laid_undertow_note_kinds:DataW Unit) = .agg kdata:=by rfl
def bounds:List (DataW Unit):=(List.range 8).map fun k=> .agg [.lit (.int .i64 (lows.getD k 0)),.lit (.int .i64 (highs.getD k 0)),.lit (.bool (powers.getD k false))]
theorem bdatum:(Rows.laid_undertow_plan_bounds:DataW Unit) = .agg bounds:=by rfl
theorem one_cell {cs:List Value} {n:Nat} {v:Value} (h:(cs.drop n).take 1=[v]):cs[n]?=some v:=by
 have:=congrArg (fun l:List Value=>l[0]?) h
 simpa [List.getElem?_take,List.getElem?_drop] using this
theorem kinds_of_laid {W:World} (h:laidMetH Tryz.prog laid1 W):TabK W:=by
 rw [MakeChecks.laidMetH_plain _ _ _ (by kernel_rfl)] at h
 obtain ⟨ps,⟨g0,t0,cs0,f0,p0,q0,hg0,ht0,hv0,hd0,_⟩,_⟩:=h
 obtain rfl:=Option.some.inj (gKinds.symm.trans hg0)
 obtain rfl:=Option.some.inj (tKinds.symm.trans ht0)
 obtain ⟨xs,m1,rfl,hx1,hlen,hn3,hel⟩:=DataW.trod_array Tryz.underlying195 hd0
 rw [kdatum] at hx1
 simp only [Prod.mk.injEq,DataW.agg.injEq] at hx1
 rw [cellsU] at hel
 intro k hk
 have h0:=hel k hk
 have hxk:xs[k]?=some xs[k]:=List.getElem?_eq_getElem (by omega)
 rw [hxk] at h0
 obtain ⟨z0,a0,b0,_⟩:=DataW.trod_int Tryz.underlying194 h0
 have hmk:(xs.map (·.1))[k]?=some xs[k].1:=by rw [List.getElem?_map,hxk];rfl
 have hb:kdata[k]?=some (.lit (.int .u8 (kinds.getD k 0))):=by
  unfold kdata
  rw [List.getElem?_map,List.getElem?_range hk];rfl
 rw [← hx1.1,hb,b0] at hmk
 simp at hmk
 have hv:=World.var?_cell hg0 hv0
 have c0:=one_cell a0
 simp only [Array.getElem?_toList] at c0
 refine (hv _).trans ?_
 rw [Nat.mul_one] at c0
 rw [List.getD_eq_getElem?_getD,hmk]
 simpa using c0
theorem tab_of_laid {W:World} (h:laidMetH Tryz.prog laid1 W):Tab W:=by
 rw [MakeChecks.laidMetH_plain _ _ _ (by kernel_rfl)] at h
 obtain ⟨ps,⟨_,_,_,_,_,_,_,_,_,_,⟨g0,t0,cs0,f0,p0,q0,hg0,ht0,hv0,hd0,_⟩,_⟩,_⟩:=h
 obtain rfl:=Option.some.inj (gTab.symm.trans hg0)
 obtain rfl:=Option.some.inj (tTab.symm.trans ht0)
 obtain ⟨xs,m1,rfl,hx1,hlen,hn3,hel⟩:=DataW.trod_array Tryz.underlying146 hd0
 rw [bdatum] at hx1
 simp only [Prod.mk.injEq,DataW.agg.injEq] at hx1
 rw [cellsB] at hel
 intro k hk
 have h0:=hel k hk
 have hxk:xs[k]?=some xs[k]:=List.getElem?_eq_getElem (by omega)
 rw [hxk] at h0
 obtain ⟨ys,n,_,hy,_,hyl,hf⟩:=DataW.trod_struct Tryz.underlying145 h0
 match ys,hyl with
 | [y0,y1,y2],_=>
  have e0:=hf 0 _ rfl
  have e1:=hf 1 _ rfl
  have e2:=hf 2 _ rfl
  dsimp at e0 e1 e2
  rw [cells3] at e0 e1
  rw [cells4] at e2
  obtain ⟨z0,a0,b0,_⟩:=DataW.trod_int Tryz.underlying3 e0
  obtain ⟨z1,a1,b1,_⟩:=DataW.trod_int Tryz.underlying3 e1
  obtain ⟨z2,a2,b2⟩:=DataW.trod_bool Tryz.underlying4 e2
  subst b0 b1 b2
  have hmk:(xs.map (·.1))[k]?=some xs[k].1:=by rw [List.getElem?_map,hxk];rfl
  rw [← hx1.1,hy] at hmk
  have hb:bounds[k]?=some (.agg [.lit (.int .i64 (lows.getD k 0)),.lit (.int .i64 (highs.getD k 0)),.lit (.bool (powers.getD k false))]):=by
   unfold bounds
   rw [List.getElem?_map,List.getElem?_range hk];rfl
  rw [hb] at hmk
  simp at hmk
  obtain ⟨rfl,rfl,rfl⟩:=hmk
  have hv:=World.var?_cell hg0 hv0
  have c0:=one_cell a0
  have c1:=one_cell a1
  have c2:=one_cell a2
  simp only [List.getElem?_take,List.getElem?_drop,Array.getElem?_toList] at c0 c1 c2
  refine ⟨(hv _).trans ?_,(hv _).trans ?_,(hv _).trans ?_⟩
  ·simpa using c0
  ·simpa using c1
  ·simpa using c2
structure OpX where
 kd:Int
 b:Int
 w:Int
 y:Bool
 x:Int
 n:Nt
def opc (q:OpX):List Value:= .int .i64 q.kd :: .int .i64 q.b :: .int .i64 q.w :: .bool q.y :: .int .u32 q.x :: nt q.n
def OpsAt (w:World) (ad:Option Addr) (os:List OpX):Prop:=∀ (k:Nat) q,os[k]?=some q→∃ b off,ad=some ⟨b,off,none⟩∧w.rangeAt b (off + k * 29) (opc q)∧(0 ≤ q.x∧q.x < 4294967296)∧0 ≤ q.n.st
theorem OpsAt.grown {w w':World} {ad:Option Addr} {os:List OpX} (h:OpsAt w ad os) (hg:w.grownBy w' none):OpsAt w' ad os:=fun k n hk=>by
 obtain ⟨b,off,e,hr,hx⟩:=h k n hk
 exact ⟨b,off,e,range_grown hr hg (by simp),hx⟩
instance:Inhabited Nt:=⟨zn⟩
instance:Inhabited OpX:=⟨⟨0,0,0,false,0,zn⟩⟩
section
variable {H:Type} {enc:TypeId × Value→H} {W:World} {d:DataW H} {p:List MemPlace}
def Cfg.datum (c:Cfg):DataW H:= .agg [.lit (.int .i64 c.co),.lit (.int .i64 c.se),.lit (.int .i64 c.wa),.lit (.int .i64 c.bl),.lit (.int .i64 c.lo),.lit (.int .i64 c.ba),.lit (.int .i64 c.ne),.lit (.int .i64 c.tr)]
structure Cfg.Wf (c:Cfg):Prop where
 co:(Lit.int .i64 c.co).wf=true
 se:(Lit.int .i64 c.se).wf=true
 wa:(Lit.int .i64 c.wa).wf=true
 bl:(Lit.int .i64 c.bl).wf=true
 lo:(Lit.int .i64 c.lo).wf=true
 ba:(Lit.int .i64 c.ba).wf=true
 ne:(Lit.int .i64 c.ne).wf=true
 tr:(Lit.int .i64 c.tr).wf=true
theorem cfg_open {v:Value} {base:Nat} (hv:Value.okWide Tryz.prog W .any base 27 v) (h:DataW.Trod enc Tryz.prog W 0 (fun _=>true) true 27 v d p) :
  ∃ c:Cfg,v = .agg c.cells∧d=c.datum∧p=[]∧c.Wf:=by
 unfold Value.okWide at hv
 rw [Tryz.underlying27] at hv
 obtain ⟨cs,rfl,hsz,_⟩:=hv
 rw [cellsC] at hsz
 obtain ⟨fuel,hf⟩:=h
 obtain ⟨ys,m,_,hx,_,hyl,hat⟩:=DataW.trod_struct Tryz.underlying27 hf
 obtain ⟨l⟩:=cs
 match l,hsz,ys,hyl with
 | [v0,v1,v2,v3,v4,v5,v6,v7],_,[y0,y1,y2,y3,y4,y5,y6,y7],_=>
  have e0:=hat 0 _ rfl
  have e1:=hat 1 _ rfl
  have e2:=hat 2 _ rfl
  have e3:=hat 3 _ rfl
  have e4:=hat 4 _ rfl
  have e5:=hat 5 _ rfl
  have e6:=hat 6 _ rfl
  have e7:=hat 7 _ rfl
  dsimp [Value.cells] at e0 e1 e2 e3 e4 e5 e6 e7
  rw [cells3] at e0 e1 e2 e3 e4 e5 e6 e7
  obtain ⟨z0,a0,b0,w0⟩:=DataW.trod_int Tryz.underlying3 e0
  obtain ⟨z1,a1,b1,w1⟩:=DataW.trod_int Tryz.underlying3 e1
  obtain ⟨z2,a2,b2,w2⟩:=DataW.trod_int Tryz.underlying3 e2
  obtain ⟨z3,a3,b3,w3⟩:=DataW.trod_int Tryz.underlying3 e3
  obtain ⟨z4,a4,b4,w4⟩:=DataW.trod_int Tryz.underlying3 e4
  obtain ⟨z5,a5,b5,w5⟩:=DataW.trod_int Tryz.underlying3 e5
  obtain ⟨z6,a6,b6,w6⟩:=DataW.trod_int Tryz.underlying3 e6
  obtain ⟨z7,a7,b7,w7⟩:=DataW.trod_int Tryz.underlying3 e7
  simp at a0 a1 a2 a3 a4 a5 a6 a7
  subst a0 a1 a2 a3 a4 a5 a6 a7 b0 b1 b2 b3 b4 b5 b6 b7
  simp at hx
  exact ⟨⟨z0,z1,z2,z3,z4,z5,z6,z7⟩,rfl,hx.1,hx.2,⟨w0,w1,w2,w3,w4,w5,w6,w7⟩⟩
theorem cfg_shut {base:Nat} {sp:Nat→Bool} {held:Bool} {c:Cfg} (h:c.Wf):DataW.Trod enc Tryz.prog W base sp held 27 (.agg c.cells) c.datum []:=by
 refine ⟨2,?_⟩
 have:=trod_struct_mk (enc:=enc) (w:=W) (base:=base) (spare:=sp) (held:=held) (n:=1) (cs:=c.cells.toList) (xs:=[(.lit (.int .i64 c.co),[]),(.lit (.int .i64 c.se),[]),(.lit (.int .i64 c.wa),[]),(.lit (.int .i64 c.bl),[]),(.lit (.int .i64 c.lo),[]),(.lit (.int .i64 c.ba),[]),(.lit (.int .i64 c.ne),[]),(.lit (.int .i64 c.tr),[])]) Tryz.underlying27 (by rw [cellsC];rfl) (by
  simp [Cfg.cells,cells3,trod_int_mk 0 Tryz.underlying3 h.co,trod_int_mk 0 Tryz.underlying3 h.se,trod_int_mk 0 Tryz.underlying3 h.wa,trod_int_mk 0 Tryz.underlying3 h.bl,trod_int_mk 0 Tryz.underlying3 h.lo,trod_int_mk 0 Tryz.underlying3 h.ba,trod_int_mk 0 Tryz.underlying3 h.ne,trod_int_mk 0 Tryz.underlying3 h.tr])
 simpa [Value.cells,Cfg.datum] using this
theorem nt_trod {base fuel:Nat} {sp:Nat→Bool} {held:Bool} {cs:List Value} {x:DataW H × List MemPlace} (hf:DataW.trod enc Tryz.prog W base sp held fuel 37 cs=some x):∃ n:Nt,cs=nt n∧0 ≤ n.st:=by
 obtain ⟨ys,m,_,hx,hsz,hyl,hat⟩:=DataW.trod_struct Tryz.underlying37 hf
 rw [cellsN] at hsz
 match cs,hsz,ys,hyl with
 | v0 :: v1 :: v2 :: v3 :: v4 :: v5 :: v6 :: v7 :: L,hsz,[y0,y1,y2,y3,y4,y5,y6,y7,y8],_=>
  have hL:L.length=16:=by simpa using hsz
  have e0:=hat 0 _ rfl
  have e1:=hat 1 _ rfl
  have e2:=hat 2 _ rfl
  have e3:=hat 3 _ rfl
  have e4:=hat 4 _ rfl
  have e5:=hat 5 _ rfl
  have e6:=hat 6 _ rfl
  have e7:=hat 7 _ rfl
  have e8:=hat 8 _ rfl
  dsimp at e0 e1 e2 e3 e4 e5 e6 e7 e8
  rw [cells5] at e0
  rw [cells3] at e1 e2 e3
  rw [cellsSt] at e4
  rw [cellsS] at e5
  rw [cells4] at e6 e7
  rw [cellsD] at e8
  simp only [List.drop_succ_cons,List.drop_zero] at e8
  rw [List.take_of_length_le (show L.length ≤ 16 by omega)] at e8
  obtain ⟨z0,a0,b0,w0⟩:=DataW.trod_int Tryz.underlying5 e0
  obtain ⟨z1,a1,b1,w1⟩:=DataW.trod_int Tryz.underlying3 e1
  obtain ⟨z2,a2,b2,w2⟩:=DataW.trod_int Tryz.underlying3 e2
  obtain ⟨z3,a3,b3,w3⟩:=DataW.trod_int Tryz.underlying3 e3
  obtain ⟨z4,a4,b4,w4⟩:=DataW.trod_int Tryz.underlying31 e4
  obtain ⟨z5,a5,b5,w5⟩:=DataW.trod_int Tryz.underlying32 e5
  obtain ⟨z6,a6,b6⟩:=DataW.trod_bool Tryz.underlying4 e6
  obtain ⟨z7,a7,b7⟩:=DataW.trod_bool Tryz.underlying4 e7
  obtain ⟨xs,m8,_,_,_,hxl,hel⟩:=DataW.trod_array Tryz.underlying35 e8
  rw [cellsW] at hel
  simp at a0 a1 a2 a3 a4 a5 a6 a7
  have each:∀ i,i < 16→∃ z:Int,L[i]?=some (.int .u32 z):=fun i hi=>by
   have h1:=hel i hi
   have hc:((L.drop (i * 1)).take 1)=[L[i]]:=by
    rw [Nat.mul_one,List.take_one,List.head?_drop]
    simp [hL,hi]
   rw [hc,List.getElem?_eq_getElem (by omega)] at h1
   obtain ⟨z,e,_,hw⟩:=DataW.trod_int Tryz.underlying33 h1
   refine ⟨z,?_⟩
   rw [List.getElem?_eq_getElem (by omega)]
   simpa using e
  obtain ⟨q,hq⟩:=Go.Deep.choose_lt each
  refine ⟨⟨z0,z1,z2,z3,z4,z5,z6,z7,(List.range 16).map q,by simp⟩,?_⟩
  subst a0 a1 a2 a3 a4 a5 a6 a7
  have hLq:L=((List.range 16).map q).map U:=by
   apply List.ext_getElem?
   intro i
   by_cases hi:i < 16
   ·rw [hq i hi];simp [List.getElem?_range hi,U]
   ·rw [List.getElem?_eq_none (by omega),List.getElem?_eq_none (by simp;omega)]
  rw [hLq]
  refine ⟨rfl,?_⟩
  exact (bounds_u64 w4).1
theorem cells_range {w:World} {base:Nat} {a:Addr} {n:Nat} {cs:List Value} (h:w.cells? base a n=some cs) (hn:0 < n):∃ b off,a=⟨b,off,none⟩∧w.rangeAt b off cs:=by
 obtain ⟨_,hlen,hc⟩:=World.cells?_some h
 have h0:=hc 0 hn
 rw [List.getElem?_eq_getElem (by omega)] at h0
 obtain ⟨b,off,spot⟩:=a
 have hspot:spot=none:=by simpa [Addr.add] using World.cell?_spot h0
 subst hspot
 refine ⟨b,off,rfl,fun j v hj=>?_⟩
 have hlt:=(List.getElem?_eq_some_iff.1 hj).1
 have:=hc j (by omega)
 rw [add_lit] at this
 rw [this];exact hj
theorem op_trod {base fuel:Nat} {sp:Nat→Bool} {held:Bool} {cs:List Value} {x:DataW H × List MemPlace} (hf:DataW.trod enc Tryz.prog W base sp held fuel 65 cs=some x):∃ q:OpX,cs=opc q∧(0 ≤ q.x∧q.x < 4294967296)∧0 ≤ q.n.st:=by
 obtain ⟨ys,m,_,hx,hsz,hyl,hat⟩:=DataW.trod_struct Tryz.underlying65 hf
 rw [cellsO] at hsz
 match cs,hsz,ys,hyl with
 | v0 :: v1 :: v2 :: v3 :: v4 :: L,hsz,[y0,y1,y2,y3,y4,y5],_=>
  have hL:L.length=24:=by simpa using hsz
  have e0:=hat 0 _ rfl
  have e1:=hat 1 _ rfl
  have e2:=hat 2 _ rfl
  have e3:=hat 3 _ rfl
  have e4:=hat 4 _ rfl
  have e5:=hat 5 _ rfl
  dsimp at e0 e1 e2 e3 e4 e5
  rw [cells3] at e0 e1 e2
  rw [cells4] at e3
  rw [cellsW] at e4
  rw [cellsN] at e5
  simp only [List.drop_succ_cons,List.drop_zero] at e5
  rw [List.take_of_length_le (show L.length ≤ 24 by omega)] at e5
  obtain ⟨z0,a0,b0,w0⟩:=DataW.trod_int Tryz.underlying3 e0
  obtain ⟨z1,a1,b1,w1⟩:=DataW.trod_int Tryz.underlying3 e1
  obtain ⟨z2,a2,b2,w2⟩:=DataW.trod_int Tryz.underlying3 e2
  obtain ⟨z3,a3,b3⟩:=DataW.trod_bool Tryz.underlying4 e3
  obtain ⟨z4,a4,b4,w4⟩:=DataW.trod_int Tryz.underlying33 e4
  obtain ⟨q,rfl,hq⟩:=nt_trod e5
  simp at a0 a1 a2 a3 a4
  subst a0 a1 a2 a3 a4
  have hw:=bounds_u32 w4
  exact ⟨⟨z0,z1,z2,z3,z4,q⟩,rfl,⟨hw.1,by have:=hw.2;show z4 < _;omega⟩,hq⟩
theorem ops_at {a0:Option Addr} {len cap:Nat} (h:DataW.Trod enc Tryz.prog W 0 (fun _=>true) true 60 (.slice a0 len cap) d p):∃ os:List OpX,len=os.length∧OpsAt W a0 os:=by
 obtain ⟨fuel,hf⟩:=h
 rcases Go.Deep.open_slice Tryz.underlying60 hf with ⟨hcs,hx⟩ | ⟨a,len',cap',m,n,D,Pl,hcs,_,hl,hm,hmm,hx,hcell⟩
 ·simp [Value.cells] at hcs
  obtain ⟨rfl,rfl,rfl⟩:=hcs
  exact ⟨[],rfl,fun k x hk=>by simp at hk⟩
 ·simp [Value.cells] at hcs
  obtain ⟨rfl,rfl,rfl⟩:=hcs
  simp only [if_true] at hmm
  subst hmm
  have each:∀ i,i < len→∃ q:OpX,∃ b off,a.add (i * 29)=⟨b,off,none⟩∧W.rangeAt b off (opc q)∧(0 ≤ q.x∧q.x < 4294967296)∧0 ≤ q.n.st:=by
   intro i hi
   obtain ⟨cs',h1,h2⟩:=hcell i (by omega)
   rw [cellsO] at h1
   obtain ⟨q,rfl,hxx⟩:=op_trod h2
   obtain ⟨b,off,ha,hr⟩:=cells_range h1 (by omega)
   exact ⟨q,b,off,ha,hr,hxx⟩
  obtain ⟨q,hq⟩:=Go.Deep.choose_lt each
  refine ⟨(List.range len).map q,by simp,fun k x hk=>?_⟩
  rw [List.getElem?_map,Option.map_eq_some_iff] at hk
  obtain ⟨y,hy,rfl⟩:=hk
  obtain ⟨hy1,hy2⟩:=List.getElem?_eq_some_iff.1 hy
  simp at hy1 hy2
  subst hy2
  obtain ⟨b,off,ha,hr,hxx⟩:=hq k hy1
  obtain ⟨b0,off0,ha0,_⟩:=hq 0 (by omega)
  have e0:a=⟨b0,off0,none⟩:=by rw [← ha0];simp [Addr.add]
  subst e0
  rw [add_lit] at ha
  cases ha
  exact ⟨_,_,rfl,hr,hxx⟩
end
end Go.Proofs.YtcoimipgilkmbaaGreatDoor.tt
