/-
  Marks as plain data; a map of them in memory: what clear makes of it, its keys: definitions and laws. No condition but what each theorem names.
  Marks: where they lie, what Read, Write, Has, Meets, Clear answer and make of them; the same of none: definitions and contracts. No condition but what each theorem names.
  Marks: what New, Copy, All answer: contracts. Condition: for New the table of bounds lies in its variable as the program's text has it.
  Marks that were made since a world began; rows of ints behind an address, their equality; the laws' own check that marks are kept: definitions and contracts. Condition: for New the table of bounds lies in its variable as the program's text has it.
  The document's own marks: where they lie, what New, Read, Write, Has, Meets, All, Clear answer and make of them: definitions and contracts. No condition but what each theorem names.
  The document's own marks: what New makes; both marks side by side: contracts. No condition but what each theorem names.
-/
import Derived.Test.YtcoimipgilkmbaaGreatDoorTl
import Derived.Test.YtcoimipgilkmbaaGreatDoorMp
import Derived.Lib.SlKeysI
import Derived.Shelf.SlMaps.Clone
import Derived.Shelf.AbstractIn
import Derived.Test.YtcoimipgilkmbaaGreatDoorPr
namespace Go.Proofs.YtcoimipgilkmbaaGreatDoor.mrk
set_option linter.unusedVariables false
set_option linter.unusedSimpArgs false
set_option maxRecDepth 1000000
set_option maxHeartbeats 16000000
open Go Go.RowKit Go.MapKept Go.Maps
open Go.Proofs.YtcoimipgilkmbaaGreatDoor.tt (grown_refl grown_alloc grown_trans lt_of ik MapIs MapAt mput mdel ik_inj ik_key nodup_at istamp_at grown_mapI)
structure Ms where
 r:Int→Bool
 w:Int→Bool
def Ms.zero:Ms:=⟨fun _=>false,fun _=>false⟩
def Ms.rd (s:Ms) (b:Int):Ms:=⟨fun x=>if x=b then true else s.r x,s.w⟩
def Ms.wr (s:Ms) (b:Int):Ms:=⟨s.r,fun x=>if x=b then true else s.w x⟩
def Ms.any (s:Ms) (b:Int):Bool:=s.r b || s.w b
def mv (r w:Bool):Int:=(if r then 1 else 0) + (if w then 2 else 0)
def Ms.v (s:Ms) (b:Int):Int:=mv (s.r b) (s.w b)
def mf (s:Ms):Int→Option Value:=fun b=>if s.any b=true then some (.int .u8 (s.v b)) else none
theorem mf_get (s:Ms) (b:Int):(mf s b).getD (.int .u8 0) = .int .u8 (s.v b):=by
 unfold mf Ms.v Ms.any
 cases s.r b <;> cases s.w b <;> rfl
theorem mput_rd (s:Ms) (b:Int):mput (mf s) b (.int .u8 (mv true (s.w b)))=mf (s.rd b):=by
 funext x
 by_cases h:x=b
 ·subst h;simp [mput,mf,Ms.rd,Ms.any,Ms.v]
 ·simp [mput,mf,Ms.rd,Ms.any,Ms.v,h]
theorem mput_wr (s:Ms) (b:Int):mput (mf s) b (.int .u8 (mv (s.r b) true))=mf (s.wr b):=by
 funext x
 by_cases h:x=b
 ·subst h;simp [mput,mf,Ms.wr,Ms.any,Ms.v]
 ·simp [mput,mf,Ms.wr,Ms.any,Ms.v,h]
def Dom (n:Int) (s:Ms):Prop:=∀ b,s.any b=true→0 ≤ b∧b < n
theorem dom_zero (n:Int):Dom n Ms.zero:=fun b h=>by cases h
theorem dom_rd {n:Int} {s:Ms} {b:Int} (h:Dom n s) (hb:0 ≤ b∧b < n):Dom n (s.rd b):=fun x hx=>by
 by_cases e:x=b
 ·subst e;exact hb
 ·refine h x ?_
  simpa [Ms.rd,Ms.any,e] using hx
theorem dom_wr {n:Int} {s:Ms} {b:Int} (h:Dom n s) (hb:0 ≤ b∧b < n):Dom n (s.wr b):=fun x hx=>by
 by_cases e:x=b
 ·subst e;exact hb
 ·refine h x ?_
  simpa [Ms.wr,Ms.any,e] using hx
theorem dom_out {n:Int} {s:Ms} {b:Int} (h:Dom n s) (hb:b < 0 ∨ n ≤ b):s.r b=false∧s.w b=false:=by
 have:¬ s.any b=true:=fun e=>by have:=h b e;omega
 simpa [Ms.any] using this
def keys (N:Nat) (s:Ms):List Int:=((List.range N).map fun (k:Nat)=>(k:Int)).filter s.any
section
variable {P:Program} {w:World} {b:Nat} {f:Int→Option Value} {mt e:TypeId} (hm:P.underlying mt=some (.map 3 e))
include hm
theorem run_clear_map (h:MapAt w b f) (ty:TypeId):∃ w',(Builtin.clear_ #[mt] ty #[.map (some b)]).run P w = .ok (.tuple #[]) w'∧MapAt w' b (fun _=>none)∧w.grownBy w' (some b):=by
 obtain ⟨es,c,hb,hs,hi⟩:=h
 refine ⟨_,by simp [Builtin.clear_,run_underlying hm,Go.MapKept.run_getObj_map hb,Go.MapKept.run_setObj_map _ hb,Result.andThen] <;> rfl,⟨#[],_,(Go.MapKept.heap_set hb).1,Go.MapKept.stamped_empty _,⟨fun x hx=>by simp at hx,fun k v=>by simp⟩⟩,grown_mapI hb _⟩
end
section
variable {F:Fence} {n:Nat} {P:Program} {w:World} {ops:Array Oper} {rest:List Oper} {a:Act} {Q:Exit→Act→World→Prop} {dst:Option Tmp} {ty:TypeId} {pos:String} {after:Array Edge}
theorem map_clear (mt e:TypeId) (hm:P.underlying mt=some (.map 3 e)) (m:Operand) (b:Nat) (f:Int→Option Value) (ha:a.eval m = .map (some b)) (hM:MapAt w b f)
  (h:∀ w',MapAt w' b (fun _=>none)→w.grownBy w' (some b)→wpList P ops Q rest (a.put dst (.tuple #[])) w'):wpList P ops Q (⟨dst,.call { callee:= .builtin .clear,args:=#[m],argTypes:=#[mt] },ty,pos,after,none⟩ :: rest) a w:=by
 refine wpList_plain rfl fun K' hK'=>?_
 obtain ⟨w',hrun,r1,r2⟩:=run_clear_map hm hM ty
 unfold Oper.wp execOp
 simp only [resolve,invoke,builtin,Sem.run_bind,Sem.run_pure,Result.andThen_ok,List.map_toArray,List.map_cons,List.map_nil,ha,hrun]
 exact hK' _ _ (h w' r1 r2)
end
end Go.Proofs.YtcoimipgilkmbaaGreatDoor.mrk

namespace Go.Proofs.YtcoimipgilkmbaaGreatDoor.mrk
set_option linter.unusedVariables false
set_option linter.unusedSimpArgs false
set_option maxRecDepth 1000000
set_option maxHeartbeats 16000000
open Go Go.ChangeShapes Go.WideShapes Go.ChangeAt Go.RowKit
open Go.Proofs.YtcoimipgilkmbaaGreatDoor.tt (grown_refl grown_alloc grown_trans grown_drew grown_drewN lt_of MapAt mput ik run_lookup_map map_store tyne)
structure MkAt (w:World) (t b N:Nat) (s:Ms):Prop where
 blk:w.heap[t]?=some (.cells #[.int .i64 (N:Int),.map (some b)] 161 (0,0))
 map:MapAt w b (mf s)
 dom:Dom (N:Int) s
 small:N ≤ 256
section
variable {w w':World} {t b N:Nat} {s s':Ms}
theorem MkAt.lt (h:MkAt w t b N s):t < w.heap.size:=lt_of h.blk
theorem MkAt.c0 (h:MkAt w t b N s):w.cell? ⟨t,0,none⟩=some (.int .i64 (N:Int)):=by simp [World.cell?,h.blk]
theorem MkAt.c1 (h:MkAt w t b N s):w.cell? ⟨t,1,none⟩=some (.map (some b)):=by simp [World.cell?,h.blk]
theorem MkAt.tb (h:MkAt w t b N s):t ≠ b:=fun e=>by
 obtain ⟨es,c,hb,_⟩:=h.map
 have:=h.blk
 rw [e,hb] at this
 cases this
theorem MkAt.of_block (h:MkAt w t b N s) (h1:w'.heap[t]?=w.heap[t]?) (h2:w'.heap[b]?=w.heap[b]?):MkAt w' t b N s:=⟨h1.trans h.blk,h.map.same h2,h.dom,h.small⟩
theorem MkAt.grown (h:MkAt w t b N s) (hg:w.grownBy w' none):MkAt w' t b N s:=h.of_block (hg.block t h.lt (by simp)) (hg.block b h.map.lt (by simp))
theorem MkAt.next (h:MkAt w t b N s) (hg:w.grownBy w' (some b)) (hm:MapAt w' b (mf s')) (hd:Dom (N:Int) s'):MkAt w' t b N s':=
 ⟨(hg.block t h.lt (fun e=>h.tb (Option.some.inj e))).trans h.blk,hm,hd,h.small⟩
theorem MkAt.other {t2 b2 N2:Nat} {s2:Ms} (h:MkAt w t2 b2 N2 s2) (hb:b2 ≠ b) (ht:t2 ≠ b) (hg:w.grownBy w' (some b)):MkAt w' t2 b2 N2 s2:=
 h.of_block (hg.block t2 h.lt (fun e=>ht (Option.some.inj e))) (hg.block b2 h.map.lt (fun e=>hb (Option.some.inj e)))
end
theorem grown_of_below {w w':World} (h:Below w.heap.size w w'):w.grownBy w' none:=⟨h.os,h.tape,h.output,h.size,fun k hk _=>h.block k hk⟩
def addE (N:Nat) (k:Int):Int:=if k < 0 ∨ (N:Int) ≤ k then 2 else 0
def rdS (N:Nat) (s:Ms) (k:Int):Ms:=if addE N k=0 then s.rd k else s
def wrS (N:Nat) (s:Ms) (k:Int):Ms:=if addE N k=0 then s.wr k else s
def meets (s:Ms) (kd k:Int):Bool:=(decide (kd=4) && s.w k) || (decide (kd=5) && s.any k)
theorem addE_out {N:Nat} {k:Int} (h:k < 0 ∨ (N:Int) ≤ k):addE N k=2:=by unfold addE;rw [if_pos h]
theorem addE_in {N:Nat} {k:Int} (h:0 ≤ k∧k < (N:Int)):addE N k=0:=by unfold addE;rw [if_neg (by omega)]
theorem or_rd (r w:Bool):bits .or .u8 (mv r w) 1=mv true w:=by cases r <;> cases w <;> decide +kernel
theorem or_wr (r w:Bool):bits .or .u8 (mv r w) 2=mv r true:=by cases r <;> cases w <;> decide +kernel
section
variable {w:World} {t b N:Nat} {s:Ms} (H:MkAt w t b N s)
include H
theorem of_any (k:Int):Calls Tryz.prog 120 #[.pointer (some ⟨t,0,none⟩),.int .i64 k] w fun e w'=>e = .returned (.int .u8 (s.v k))∧w=w':=by
 have hc:=H.c1
 have hl:=run_lookup_map Tryz.underlying159 Tryz.underlying3 H.map (z:= .int .u8 0) (Tryz.zeroValue168 w) k
 rw [mf_get] at hl
 generalize s.v k=x at hl ⊢
 clear H
 go_enter Tryz.func120,Tryz.ntmps120
 go_wp2
 go_ret
 exact ⟨rfl,rfl⟩
theorem add_out (k m:Int) (h:k < 0 ∨ (N:Int) ≤ k):Calls Tryz.prog 88 #[.pointer (some ⟨t,0,none⟩),.int .i64 k,.int .u8 m] w fun e w'=>e = .returned (.int .i64 2)∧w=w':=by
 have hc:=H.c0
 by_cases h0:k < 0
 ·clear H h
  go_enter Tryz.func88,Tryz.ntmps88
  go_wp2
  go_ret
  exact ⟨rfl,rfl⟩
 ·have h1:(N:Int) ≤ k:=by omega
  have h2:decide ((N:Int) ≤ k)=true:=by simpa using h1
  have h3:decide (k < 0)=false:=by simp;omega
  clear H h h0 h1
  go_enter Tryz.func88,Tryz.ntmps88
  go_wp2
  go_ret
  exact ⟨rfl,rfl⟩
theorem add_in (k m y:Int) (h:0 ≤ k∧k < (N:Int)) (hy:bits .or .u8 (s.v k) m=y):Calls Tryz.prog 88 #[.pointer (some ⟨t,0,none⟩),.int .i64 k,.int .u8 m] w fun e w'=>e = .returned (.int .i64 0)∧MapAt w' b (mput (mf s) k (.int .u8 y))∧w.grownBy w' (some b):=by
 have hc:=H.c0
 have hc1:=H.c1
 have hl:=run_lookup_map Tryz.underlying159 Tryz.underlying3 H.map (z:= .int .u8 0) (Tryz.zeroValue168 w) k
 rw [mf_get] at hl
 have HM:=qh H.map
 generalize s.v k=x at hl hy ⊢
 have h2:decide ((N:Int) ≤ k)=false:=by simp;omega
 have h3:decide (k < 0)=false:=by simp;omega
 clear H h
 go_enter Tryz.func88,Tryz.ntmps88
 go_wp2_with ((with_reducible refine map_store 159 168 Tryz.underlying159 Tryz.underlying3 _ _ _ b (mf s) k (.int .u8 y) ?_ ?_ ?_ HM.out ?_);(rfl);(rfl);(rfl);intro w1 hm1 hg1;have HM1:=qh hm1;have HG1:=qh hg1;clear hm1 hg1)
 go_ret
 exact ⟨rfl,HM1.out,HG1.out⟩
theorem read_any (k:Int):Calls Tryz.prog 54 #[.pointer (some ⟨t,0,none⟩),.int .i64 k] w fun e w'=>e = .returned (.int .i64 (addE N k))∧MkAt w' t b N (rdS N s k)∧w.grownBy w' (some b):=by
 by_cases h:k < 0 ∨ (N:Int) ≤ k
 ·have HA:=qh (add_out H k 1 h)
  have HR:Hid (MkAt w t b N (rdS N s k)):=qh (by unfold rdS;rw [addE_out h,if_neg (by decide)];exact H)
  rw [addE_out h]
  clear H h
  go_enter Tryz.func54,Tryz.ntmps54
  go_wp2_with (go_at_call 88;((with_reducible refine HA.out.mono ?_);rintro e w1 ⟨rfl,rfl⟩))
  go_ret
  exact ⟨rfl,HR.out,grown_refl _ _⟩
 ·have hi:0 ≤ k∧k < (N:Int):=by omega
  have HA:=qh (add_in H k 1 (mv true (s.w k)) hi (or_rd _ _))
  have HH:=qh H
  have HI:=qh hi
  rw [addE_in hi]
  unfold rdS
  rw [addE_in hi,if_pos rfl]
  clear H h hi
  go_enter Tryz.func54,Tryz.ntmps54
  go_wp2_with (go_at_call 88;((with_reducible refine HA.out.mono ?_);rintro e w1 ⟨rfl,hm1,hg1⟩;have HM1:=qh hm1;have HG1:=qh hg1;clear hm1 hg1))
  go_ret
  exact ⟨rfl,HH.out.next HG1.out (by rw [← mput_rd];exact HM1.out) (dom_rd HH.out.dom HI.out),HG1.out⟩
theorem write_any (k:Int):Calls Tryz.prog 50 #[.pointer (some ⟨t,0,none⟩),.int .i64 k] w fun e w'=>e = .returned (.int .i64 (addE N k))∧MkAt w' t b N (wrS N s k)∧w.grownBy w' (some b):=by
 by_cases h:k < 0 ∨ (N:Int) ≤ k
 ·have HA:=qh (add_out H k 2 h)
  have HR:Hid (MkAt w t b N (wrS N s k)):=qh (by unfold wrS;rw [addE_out h,if_neg (by decide)];exact H)
  rw [addE_out h]
  clear H h
  go_enter Tryz.func50,Tryz.ntmps50
  go_wp2_with (go_at_call 88;((with_reducible refine HA.out.mono ?_);rintro e w1 ⟨rfl,rfl⟩))
  go_ret
  exact ⟨rfl,HR.out,grown_refl _ _⟩
 ·have hi:0 ≤ k∧k < (N:Int):=by omega
  have HA:=qh (add_in H k 2 (mv (s.r k) true) hi (or_wr _ _))
  have HH:=qh H
  have HI:=qh hi
  rw [addE_in hi]
  unfold wrS
  rw [addE_in hi,if_pos rfl]
  clear H h hi
  go_enter Tryz.func50,Tryz.ntmps50
  go_wp2_with (go_at_call 88;((with_reducible refine HA.out.mono ?_);rintro e w1 ⟨rfl,hm1,hg1⟩;have HM1:=qh hm1;have HG1:=qh hg1;clear hm1 hg1))
  go_ret
  exact ⟨rfl,HH.out.next HG1.out (by rw [← mput_wr];exact HM1.out) (dom_wr HH.out.dom HI.out),HG1.out⟩
theorem has_any (k:Int):Calls Tryz.prog 79 #[.pointer (some ⟨t,0,none⟩),.int .i64 k] w fun e w'=>e = .returned (.tuple #[.bool (s.r k),.bool (s.w k)])∧w=w':=by
 have ho:=of_any H k
 clear H
 unfold Ms.v at ho
 generalize s.r k=r at ho ⊢
 generalize s.w k=x at ho ⊢
 have b1:bits .and .u8 0 1=0:=by decide +kernel
 have b2:bits .and .u8 0 2=0:=by decide +kernel
 have b3:bits .and .u8 1 1=1:=by decide +kernel
 have b4:bits .and .u8 1 2=0:=by decide +kernel
 have b5:bits .and .u8 2 1=0:=by decide +kernel
 have b6:bits .and .u8 2 2=2:=by decide +kernel
 have b7:bits .and .u8 3 1=1:=by decide +kernel
 have b8:bits .and .u8 3 2=2:=by decide +kernel
 cases r <;> cases x
 all_goals
  simp only [mv,Bool.false_eq_true,if_true,if_false,Int.zero_add,Int.add_zero,Int.reduceAdd] at ho
  have HO:=qh ho
  clear ho
  go_enter Tryz.func79,Tryz.ntmps79
  go_wp2_with (go_at_call 120;((with_reducible refine HO.out.mono ?_);rintro e w1 ⟨rfl,rfl⟩))
  go_ret2
  exact ⟨rfl,rfl⟩
theorem meets_any (kd k:Int):Calls Tryz.prog 141 #[.pointer (some ⟨t,0,none⟩),.int .u8 kd,.int .i64 k] w fun e w'=>e = .returned (.bool (meets s kd k))∧w=w':=by
 have ho:=of_any H k
 clear H
 unfold Ms.v at ho
 unfold meets Ms.any
 generalize s.r k=r at ho ⊢
 generalize s.w k=x at ho ⊢
 have b2:bits .and .u8 0 2=0:=by decide +kernel
 have b4:bits .and .u8 1 2=0:=by decide +kernel
 have b6:bits .and .u8 2 2=2:=by decide +kernel
 have b8:bits .and .u8 3 2=2:=by decide +kernel
 by_cases h4:kd=4
 ·subst h4
  cases r <;> cases x
  all_goals
   simp only [mv,Bool.false_eq_true,if_true,if_false,Int.zero_add,Int.add_zero,Int.reduceAdd] at ho
   have HO:=qh ho
   clear ho
   go_enter Tryz.func141,Tryz.ntmps141
   go_wp2_with (go_at_call 120;((with_reducible refine HO.out.mono ?_);rintro e w1 ⟨rfl,rfl⟩))
   go_ret
   exact ⟨rfl,rfl⟩
 ·by_cases h5:kd=5
  ·subst h5
   clear h4
   cases r <;> cases x
   all_goals
    simp only [mv,Bool.false_eq_true,if_true,if_false,Int.zero_add,Int.add_zero,Int.reduceAdd] at ho
    have HO:=qh ho
    clear ho
    go_enter Tryz.func141,Tryz.ntmps141
    go_wp2_with (go_at_call 120;((with_reducible refine HO.out.mono ?_);rintro e w1 ⟨rfl,rfl⟩))
    go_ret
    exact ⟨rfl,rfl⟩
  ·have e4:(kd == 4)=false:=by simpa using h4
   have e5:(kd == 5)=false:=by simpa using h5
   rw [decide_eq_false h4,decide_eq_false h5]
   clear ho h4 h5
   go_enter Tryz.func141,Tryz.ntmps141
   go_wp2
   go_ret
   exact ⟨rfl,rfl⟩
theorem clear_any:Calls Tryz.prog 53 #[.pointer (some ⟨t,0,none⟩)] w fun e w'=>e = .returned (.tuple #[])∧MkAt w' t b N Ms.zero∧w.grownBy w' (some b):=by
 have hc:=H.c1
 have HM:=qh H.map
 have HH:=qh H
 clear H
 go_enter Tryz.func53,Tryz.ntmps53
 go_wp2_with ((with_reducible refine map_clear 159 168 Tryz.underlying159 _ b (mf s) ?_ HM.out ?_);(rfl);intro w1 hm1 hg1;have HM1:=qh hm1;have HG1:=qh hg1;clear hm1 hg1)
 refine bodyPost_end (results_none rfl _ _ _) rfl ?_
 exact ⟨rfl,HH.out.next HG1.out HM1.out (dom_zero _),HG1.out⟩
end
theorem add_nil (k m:Int) (w:World):Calls Tryz.prog 88 #[.pointer none,.int .i64 k,.int .u8 m] w fun e w'=>e = .returned (.int .i64 1)∧w=w':=by
 go_enter Tryz.func88,Tryz.ntmps88
 go_wp2
 go_ret
 exact ⟨rfl,rfl⟩
theorem write_nil (k:Int) (w:World):Calls Tryz.prog 50 #[.pointer none,.int .i64 k] w fun e w'=>e = .returned (.int .i64 1)∧w=w':=by
 have HA:=qh (add_nil k 2 w)
 go_enter Tryz.func50,Tryz.ntmps50
 go_wp2_with (go_at_call 88;((with_reducible refine HA.out.mono ?_);rintro e w1 ⟨rfl,rfl⟩))
 go_ret
 exact ⟨rfl,rfl⟩
theorem copy_nil (w:World):Calls Tryz.prog 62 #[.pointer none] w fun e w'=>e = .returned (.pointer none)∧w=w':=by
 go_enter Tryz.func62,Tryz.ntmps62
 go_wp2
 go_ret
 exact ⟨rfl,rfl⟩
end Go.Proofs.YtcoimipgilkmbaaGreatDoor.mrk

namespace Go.Proofs.YtcoimipgilkmbaaGreatDoor.mrk
set_option linter.unusedVariables false
set_option linter.unusedSimpArgs false
set_option maxRecDepth 1000000
set_option maxHeartbeats 16000000
open Go Go.ChangeShapes Go.WideShapes Go.ChangeAt Go.RowKit Go.Maps Go.Sort Go.Shelf
open Go.Proofs.YtcoimipgilkmbaaGreatDoor.tt (Cfg Tab CfgAt cfg_at yes yes_of yes_not may_any data_yes data_no grown_refl grown_alloc grown_trans grown_drew grown_drewN lt_of MapAt mput ik run_lookup_map map_store tyne)
section
variable {w:World} {t b N:Nat} {s:Ms} (H:MkAt w t b N s)
include H
omit H in
theorem clone_any {f:Int→Option Value} (hM:MapAt w b f) :
  Calls Tryz.prog 105 #[.map (some b)] w fun e w'=>e = .returned (.map (some w.heap.size))∧MapAt w' w.heap.size f∧w.grownBy w' none:=by
 obtain ⟨es,ck,hb,h1,h2⟩:=hM
 have hq:=fun w=>run_eql_map_nil_sl (P:=Tryz.prog) w 159 _ _ (some b) Tryz.underlying159
 have HB:=qh hb
 clear hb
 go_enter Tryz.func105,Tryz.ntmps105
 go_wp2
 rw [run_callFunc_extern Tryz.func147 (by kernel_rfl) (by kernel_rfl) (by kernel_rfl) (e:=Extern.MapsClone.clone) (by kernel_rfl),run_maps_clone_sl w 159 HB.out]
 simp only [Result.andThen]
 rw [Oper.upon_value]
 go_wp2
 rw [run_typeAssert_map_sl _ 159 _ _ _ _ Tryz.underlying159]
 simp only [Result.andThen]
 rw [Oper.upon_value]
 go_wp2
 go_ret
 exact ⟨rfl,⟨es,ck,heap_alloc_new _ _,h1,h2⟩,grown_alloc (grown_refl _ _) _⟩
theorem copy_any:Calls Tryz.prog 62 #[.pointer (some ⟨t,0,none⟩)] w fun e w'=>∃ t' b',e = .returned (.pointer (some ⟨t',0,none⟩))∧MkAt w' t' b' N s∧w.heap.size ≤ t'∧w.heap.size ≤ b'∧w.grownBy w' none:=by
 have hc0:=H.c0
 have hc:=H.c1
 have HC:=qh (clone_any (w:=w.drew) (b:=b) (H.grown (grown_drew (grown_refl _ _))).map)
 have HH:=qh H
 have hlt:=H.lt
 clear H
 go_enter Tryz.func62,Tryz.ntmps62
 go_wp2_with fail
 go_region_with (go_at_call 105;((with_reducible refine HC.out.mono ?_);rintro e w2 ⟨rfl,hm2,hgr2⟩;have hc2:=hgr2.cell (show w.drew.cell? ⟨t,0,none⟩=_ from hc0) (by simp)))
 all_goals
  go_wp2_with fail
  go_ret
  have hs2:=hgr2.size
  have hl2:=hm2.lt
  refine ⟨_,_,rfl,⟨heap_alloc_new _ _,hm2.same (Below.heap_alloc _ _ _ hl2),HH.out.dom,HH.out.small⟩,by simpa using hs2,by simp,⟨hgr2.os,hgr2.tape,hgr2.output,by simp at hs2 ⊢;omega,fun k hk h=>?_⟩⟩
  exact (Below.heap_alloc _ _ _ (by simp at hs2;omega)).trans (hgr2.block k hk h)
end
theorem new_no (c:Cfg) (w:World) (hT:Tab w) (hm:¬ c.may):Calls Tryz.prog 45 #[.agg c.cells] w fun e w'=>e = .returned (.tuple #[.pointer none,.int .i64 2])∧w.grownBy w' none:=by
 have HG0:Hid (w.grownBy (w.alloc (.cells c.cells 27)) none):=qh (grown_alloc (grown_refl _ _) _)
 have HM:=qh (may_any c (w.alloc (.cells c.cells 27)) (hT.grown HG0.out))
 rw [yes_not hm] at HM
 clear hT hm
 unfold Cfg.cells at *
 go_enter Tryz.func45,Tryz.ntmps45
 go_wp2_with (go_at_call 42;((with_reducible refine HM.out.mono ?_);rintro e w1 ⟨rfl,hg1⟩;have HG1:=qh hg1;clear hg1))
 go_ret2
 exact ⟨rfl,grown_trans HG0.out HG1.out⟩
theorem new_yes (c:Cfg) (N:Nat) (w:World) (hT:Tab w) (hm:c.may) (hN:c.data=(N:Int)) (hs:N ≤ 256):Calls Tryz.prog 45 #[.agg c.cells] w fun e w'=>∃ t b,e = .returned (.tuple #[.pointer (some ⟨t,0,none⟩),.int .i64 0])∧MkAt w' t b N Ms.zero∧w.heap.size ≤ t∧w.heap.size ≤ b∧w.grownBy w' none:=by
 have hg0:w.grownBy (w.alloc (.cells c.cells 27)) none:=grown_alloc (grown_refl _ _) _
 have HM:=qh (may_any c (w.alloc (.cells c.cells 27)) (hT.grown hg0))
 rw [yes_of hm] at HM
 have HC:=qh (cfg_at w c)
 obtain ⟨d0,d1,d2,d3,d4,d5,d6,d7⟩:=(cfg_at w c)
 have HD:Hid (∀ w',w.grownBy w' none→_):=qh fun w' h=>data_yes c w' (hT.grown h) hm
 rw [hN] at HD
 have HG0:=qh hg0
 have hmm:=@run_makeMap Tryz.prog
 have HS:=qh hs
 clear hT hm hg0 hN hs
 unfold Cfg.cells at *
 go_enter Tryz.func45,Tryz.ntmps45
 go_wp2_with (first
  | (go_at_call 42;((with_reducible refine HM.out.mono ?_);rintro e w1 ⟨rfl,hg1⟩;have HG1:=qh hg1;obtain ⟨d0,d1,d2,d3,d4,d5,d6,d7⟩:=HC.out.grown hg1;clear hg1))
  | (go_at_call 41;((with_reducible refine (HD.out _ (grown_trans HG0.out HG1.out)).mono ?_);rintro e w3 ⟨rfl,hg3⟩;have HG3:=qh hg3;clear hg3)))
 go_ret2
 have hs1:w.heap.size ≤ w3.heap.size:=(grown_trans HG0.out (grown_trans HG1.out HG3.out)).size
 refine ⟨w3.heap.size + 1,w3.heap.size,rfl,⟨?_,?_,dom_zero _,HS.out⟩,by omega,hs1,grown_alloc (grown_alloc (grown_trans HG0.out (grown_trans HG1.out HG3.out)) _) _⟩
 ·have:=heap_alloc_new (w3.alloc (.map #[] 0)) (.cells #[.int .i64 (N:Int),.map (some w3.heap.size)] 161)
  rwa [World.size_alloc] at this
 ·exact (tt.MapAt.new w3).same (Below.heap_alloc _ _ _ (by simp))
end Go.Proofs.YtcoimipgilkmbaaGreatDoor.mrk

namespace Go.Proofs.YtcoimipgilkmbaaGreatDoor.mrk
set_option linter.unusedVariables false
set_option linter.unusedSimpArgs false
set_option maxRecDepth 1000000
set_option maxHeartbeats 16000000
open Go Go.ChangeShapes Go.WideShapes Go.ChangeAt Go.RowKit Go.Maps Go.Sort
open Go.Proofs.YtcoimipgilkmbaaGreatDoor.tt (Cfg Tab CfgAt cfg_at hb_bounds yes yes_of yes_not may_any data_yes data_no grown_refl grown_alloc grown_trans grown_drew grown_drewN lt_of MapAt mput ik tyne)
structure Own (w w':World) (t b N:Nat) (s:Ms):Prop where
 mq:MkAt w' t b N s
 old:w.grownBy w' none
 hb:w.heap.size ≤ b
section
variable {w w1 w2:World} {t b N:Nat} {s s':Ms}
theorem old_next (h:w.grownBy w1 none) (hb:w.heap.size ≤ b) (hg:w1.grownBy w2 (some b)):w.grownBy w2 none:=
 ⟨hg.os.trans h.os,hg.tape.trans h.tape,hg.output.trans h.output,Nat.le_trans h.size hg.size,fun k hk _=>(hg.block k (Nat.lt_of_lt_of_le hk h.size) (fun e=>by have:=Option.some.inj e;omega)).trans (h.block k hk (by simp))⟩
theorem Own.grown (h:Own w w1 t b N s) (hg:w1.grownBy w2 none):Own w w2 t b N s:=⟨h.mq.grown hg,grown_trans h.old hg,h.hb⟩
theorem Own.next (h:Own w w1 t b N s) (hm:MkAt w2 t b N s') (hg:w1.grownBy w2 (some b)):Own w w2 t b N s':=⟨hm,old_next h.old h.hb hg,h.hb⟩
theorem Own.from {w0:World} (h:Own w w1 t b N s) (hg:w0.grownBy w none):Own w0 w1 t b N s:=⟨h.mq,grown_trans hg h.old,Nat.le_trans hg.size h.hb⟩
theorem Own.cells (h:Own w w1 t b N s) (hg:w1.grownBy w2 (some b)) {g:Nat} {cs:Array Value} {ty:TypeId} {fr:Nat × Nat} (hc:w1.heap[g]?=some (.cells cs ty fr)):w2.heap[g]?=some (.cells cs ty fr):=
 (hg.block g (lt_of hc) (fun e=>by
  obtain ⟨es,c,hb,_⟩:=h.mq.map
  rw [← Option.some.inj e,hc] at hb
  cases hb)).trans hc
theorem own_new (c:Cfg) (N:Nat) (w:World) (hT:Tab w) (hm:c.may) (hN:c.data=(N:Int)) (hs:N ≤ 256):Calls Tryz.prog 45 #[.agg c.cells] w fun e w'=>∃ t b,e = .returned (.tuple #[.pointer (some ⟨t,0,none⟩),.int .i64 0])∧Own w w' t b N Ms.zero:=
 (new_yes c N w hT hm hN hs).mono fun e w' ⟨t,b,he,hM,_,hb,hg⟩=>⟨t,b,he,hM,hg,hb⟩
theorem own_clear (h:Own w w1 t b N s):Calls Tryz.prog 53 #[.pointer (some ⟨t,0,none⟩)] w1 fun e w2=>e = .returned (.tuple #[])∧Own w w2 t b N Ms.zero∧w1.grownBy w2 (some b):=
 (clear_any h.mq).mono fun e w2 ⟨he,hM,hg⟩=>⟨he,h.next hM hg,hg⟩
end
def IntsAt (w:World) (ad:Option Addr) (xs:List Int):Prop:=∀ (k:Nat) (x:Int),xs[k]?=some x→∃ g off,ad=some ⟨g,off,none⟩∧w.cell? ⟨g,off + k,none⟩=some (.int .i64 x)
theorem IntsAt.grown {w w':World} {ad:Option Addr} {xs:List Int} (h:IntsAt w ad xs) (hg:w.grownBy w' none):IntsAt w' ad xs:=fun k q hk=>by
 obtain ⟨g,off,e,h0⟩:=h k q hk
 exact ⟨g,off,e,hg.cell h0 (by simp)⟩
theorem IntsAt.nil (w:World) (ad:Option Addr):IntsAt w ad []:=fun k x h=>by simp at h
theorem IntsAt.drewN {w:World} {ad:Option Addr} {xs:List Int} (h:IntsAt w ad xs) (n:Nat):IntsAt (w.drewN n) ad xs:=h.grown (grown_drewN (grown_refl _ _) n)
theorem cfg_data {c:Cfg} (h:c.may):1 ≤ c.data∧c.data ≤ 256:=by
 have h1:=h.2
 have h2:=hb_bounds (h.1 3 (by omega))
 have h3:=hb_bounds (h.1 0 (by omega))
 have h4:=hb_bounds (h.1 4 (by omega))
 have h2':(1:Int) ≤ c.bl∧c.bl ≤ 256:=h2
 have h3':(1:Int) ≤ c.co∧c.co ≤ 16:=h3
 have h4':(1:Int) ≤ c.lo∧c.lo ≤ 4:=h4
 have h5:0 ≤ c.co * c.lo:=Int.mul_nonneg (by omega) (by omega)
 unfold Cfg.data at *
 omega
theorem cfg_nat {c:Cfg} (h:c.may):∃ N:Nat,c.data=(N:Int)∧1 ≤ N∧N ≤ 256:=by
 have:=cfg_data h
 exact ⟨c.data.toNat,by omega,by omega,by omega⟩
def c8:Cfg:=⟨2,2,2,10,1,1,1,0⟩
def c0:Cfg:=⟨0,0,0,0,0,0,0,0⟩
def s3:Ms:=rdS 8 Ms.zero 3
section
variable {w w1:World} {t b:Nat}
end
end Go.Proofs.YtcoimipgilkmbaaGreatDoor.mrk

namespace Go.Proofs.YtcoimipgilkmbaaGreatDoor.mrk
set_option linter.unusedVariables false
set_option linter.unusedSimpArgs false
set_option maxRecDepth 1000000
set_option maxHeartbeats 16000000
open Go Go.ChangeShapes Go.WideShapes Go.ChangeAt Go.RowKit Go.Maps Go.Sort
open Go.Proofs.YtcoimipgilkmbaaGreatDoor.tt (Cfg Tab CfgAt cfg_at rdata_any grown_refl grown_alloc grown_trans grown_drew grown_drewN grown_setCells heap_setCells lt_of tyne)
theorem made {P:Program} (t e:TypeId) (i:TypeInfo) (z:Value) (n size:Nat) (ht:P.underlying t=some (.slice e)) (hi:P.info? e=some i) (hz:i.zero=some z) (h1:i.size=size) (hc:z.cells.size=size) (h0:0 < size)
  (hb:(i.bytes:Int) * (n:Int) ≤ 281474976710656) (h63:(n:Int) ≤ 9223372036854775807) :
  ∃ cs:Array Value,cs.size=n * size∧(∀ (j k:Nat) v,j < n→z.cells[k]?=some v→cs[j * size + k]?=some v)∧∀ w:World,(Instr.makeSlice t (.int .i64 (n:Int)) (.int .i64 (n:Int))).run P w = .ok (.slice (some ⟨w.heap.size,0,none⟩) n n) (w.alloc (.cells cs e)):=by
 refine ⟨madeCells z.cells (n * size),by rw [size_madeCells],fun j k v hj hk=>?_,fun w=>?_⟩
 ·have hks:k < size:=by have:=(Array.getElem?_eq_some_iff.1 hk).1;omega
  have hjk:j * size + k < n * size:=by
   have:(j + 1) * size ≤ n * size:=Nat.mul_le_mul_right _ hj
   rw [Nat.add_mul,Nat.one_mul] at this
   omega
  unfold madeCells
  rw [Array.getElem?_map,Array.getElem?_range,if_pos hjk]
  simp only [Option.map_some,hc]
  rw [Nat.mul_comm j size,Nat.mul_add_mod,Nat.mod_eq_of_lt hks,getElem!_def,hk]
 ·have hrun:=run_make (P:=P) w t e i z ht hi hz .i64 .i64 n n (by omega) (Int.le_refl _) hb h63
  rw [Int.toNat_natCast,h1] at hrun
  exact hrun
def BAt (w:World) (g N:Nat) (f:Int→Bool):Prop:=∃ cs:Array Value,w.heap[g]?=some (.cells cs 4 (0,0))∧cs.size=N∧∀ k:Nat,k < N→cs[k]?=some (.bool (f (k:Int)))
section
variable {w w':World} {g N:Nat} {f:Int→Bool}
theorem BAt.lt (h:BAt w g N f):g < w.heap.size:=by obtain ⟨cs,hb,_⟩:=h;exact lt_of hb
theorem BAt.same (h:BAt w g N f) (hb:w'.heap[g]?=w.heap[g]?):BAt w' g N f:=by obtain ⟨cs,h1,h2⟩:=h;exact ⟨cs,hb.trans h1,h2⟩
theorem BAt.cell (h:BAt w g N f) {k:Nat} (hk:k < N):w.cell? ⟨g,k,none⟩=some (.bool (f (k:Int))):=by
 obtain ⟨cs,h1,h2,h3⟩:=h
 rw [cell_of_row _ _ k _ _ _ h1];exact h3 k hk
theorem BAt.frozen (h:BAt w g N f) (j:Nat):w.frozen? ⟨g,j,none⟩=false:=by
 obtain ⟨cs,h1,_⟩:=h
 exact frozen_of_row _ _ _ _ _ h1
theorem BAt.set (h:BAt w g N f) {k:Nat} (hk:k < N):BAt (w.setCell ⟨g,k,none⟩ (.bool true)) g N (fun x=>if x=(k:Int) then true else f x)∧w.grownBy (w.setCell ⟨g,k,none⟩ (.bool true)) (some g):=by
 obtain ⟨cs,h1,h2,h3⟩:=h
 obtain ⟨cur',q1,q2,q3,q4⟩:=heap_setCells g 4 [.bool true] k w cs h1 (by simp;omega)
 refine ⟨⟨cur',q1,by omega,fun j hj=>?_⟩,grown_setCells w g k [.bool true]⟩
 by_cases e:j=k
 ·subst e
  have:=q4 0 (.bool true) rfl
  rw [Nat.add_zero] at this
  rw [this];simp
 ·have hne:¬ ((j:Int)=(k:Int)):=by omega
  rw [q3 j (by simp;omega),h3 j hj];simp [hne]
theorem BAt.new (w:World) (cs:Array Value) (N:Nat) (hs:cs.size=N) (hc:∀ k:Nat,k < N→cs[k]?=some (.bool false)):BAt (w.alloc (.cells cs 4)) w.heap.size N (fun _=>false):=⟨cs,heap_alloc_new _ _,hs,hc⟩
end
structure RAt (w:World) (r g1 g2 N:Nat) (s:Ms):Prop where
 blk:w.heap[r]?=some (.cells #[.slice (some ⟨g1,0,none⟩) N N,.slice (some ⟨g2,0,none⟩) N N] 139 (0,0))
 rd:BAt w g1 N s.r
 wt:BAt w g2 N s.w
 ne:g1 ≠ g2
 dom:Dom (N:Int) s
 small:N ≤ 256
section
variable {w w':World} {r g1 g2 N:Nat} {s s':Ms}
theorem RAt.lt (h:RAt w r g1 g2 N s):r < w.heap.size:=lt_of h.blk
theorem RAt.c0 (h:RAt w r g1 g2 N s):w.cell? ⟨r,0,none⟩=some (.slice (some ⟨g1,0,none⟩) N N):=by simp [World.cell?,h.blk]
theorem RAt.c1 (h:RAt w r g1 g2 N s):w.cell? ⟨r,1,none⟩=some (.slice (some ⟨g2,0,none⟩) N N):=by simp [World.cell?,h.blk]
theorem RAt.r1 (h:RAt w r g1 g2 N s):r ≠ g1:=by obtain ⟨cs,h1,_⟩:=h.rd;exact tyne h.blk h1 (by decide)
theorem RAt.r2 (h:RAt w r g1 g2 N s):r ≠ g2:=by obtain ⟨cs,h1,_⟩:=h.wt;exact tyne h.blk h1 (by decide)
theorem RAt.of_block (h:RAt w r g1 g2 N s) (h0:w'.heap[r]?=w.heap[r]?) (h1:w'.heap[g1]?=w.heap[g1]?) (h2:w'.heap[g2]?=w.heap[g2]?):RAt w' r g1 g2 N s:=⟨h0.trans h.blk,h.rd.same h1,h.wt.same h2,h.ne,h.dom,h.small⟩
theorem RAt.grown (h:RAt w r g1 g2 N s) (hg:w.grownBy w' none):RAt w' r g1 g2 N s:=h.of_block (hg.block r h.lt (by simp)) (hg.block g1 h.rd.lt (by simp)) (hg.block g2 h.wt.lt (by simp))
theorem RAt.setr (h:RAt w r g1 g2 N s) {k:Nat} (hk:k < N):RAt (w.setCell ⟨g1,k,none⟩ (.bool true)) r g1 g2 N (s.rd (k:Int)):=by
 obtain ⟨hb,hg⟩:=h.rd.set hk
 exact ⟨(hg.block r h.lt (fun e=>h.r1 (Option.some.inj e))).trans h.blk,hb,h.wt.same (hg.block g2 h.wt.lt (fun e=>h.ne (Option.some.inj e).symm)),h.ne,dom_rd h.dom ⟨by omega,by omega⟩,h.small⟩
theorem RAt.setw (h:RAt w r g1 g2 N s) {k:Nat} (hk:k < N):RAt (w.setCell ⟨g2,k,none⟩ (.bool true)) r g1 g2 N (s.wr (k:Int)):=by
 obtain ⟨hb,hg⟩:=h.wt.set hk
 exact ⟨(hg.block r h.lt (fun e=>h.r2 (Option.some.inj e))).trans h.blk,h.rd.same (hg.block g1 h.rd.lt (fun e=>h.ne (Option.some.inj e))),hb,h.ne,dom_wr h.dom ⟨by omega,by omega⟩,h.small⟩
end
theorem infoB:(Tryz.prog.info? 4).map (fun i=>(i.zero,i.size,i.bytes))=some (some (.bool false),1,1):=by kernel_rfl
theorem bools (N:Nat) (hN:N ≤ 256):∃ cs:Array Value,cs.size=N∧(∀ k:Nat,k < N→cs[k]?=some (.bool false))∧∀ w:World,(Instr.makeSlice 137 (.int .i64 (N:Int)) (.int .i64 (N:Int))).run Tryz.prog w = .ok (.slice (some ⟨w.heap.size,0,none⟩) N N) (w.alloc (.cells cs 4)):=by
 obtain ⟨ik,hik,zk,sk,yk⟩:=info_parts infoB
 obtain ⟨cs,hcs,hcz,hmk⟩:=made (P:=Tryz.prog) 137 4 ik (.bool false) N 1 Tryz.underlying137 hik zk sk (by rfl) (by omega) (by rw [yk];omega) (by omega)
 exact ⟨cs,by omega,fun k hk=>by have:=hcz k 0 (.bool false) hk rfl;rwa [Nat.mul_one,Nat.add_zero] at this,hmk⟩
section
variable {w:World} {r g1 g2 N:Nat} {s:Ms} (H:RAt w r g1 g2 N s)
include H
theorem rread_any (k:Int):Calls Tryz.prog 112 #[.pointer (some ⟨r,0,none⟩),.int .i64 k] w fun e w'=>e = .returned (.int .i64 (addE N k))∧RAt w' r g1 g2 N (rdS N s k)∧w.grownBy w' (some g1):=by
 have hc:=H.c0
 by_cases hb:k < 0 ∨ (N:Int) ≤ k
 ·have HR:Hid (RAt w r g1 g2 N (rdS N s k)):=qh (by unfold rdS;rw [addE_out hb,if_neg (by decide)];exact H)
  rw [addE_out hb]
  by_cases h0:k < 0
  ·clear H hb
   go_enter Tryz.func112,Tryz.ntmps112
   go_wp2
   go_ret
   exact ⟨rfl,HR.out,grown_refl _ _⟩
  ·have h1:(N:Int) ≤ k:=by omega
   have h2:decide ((N:Int) ≤ k)=true:=by simpa using h1
   have h3:decide (k < 0)=false:=by simp;omega
   clear H hb h0 h1
   go_enter Tryz.func112,Tryz.ntmps112
   go_wp2
   go_ret
   exact ⟨rfl,HR.out,grown_refl _ _⟩
 ·have hi:0 ≤ k∧k < (N:Int):=by omega
  have HI:=qh hi
  have HH:=qh H
  rw [addE_in hi]
  unfold rdS
  rw [addE_in hi,if_pos rfl]
  obtain ⟨q,rfl⟩:∃ q:Nat,k=(q:Int):=⟨k.toNat,by omega⟩
  have hq:q < N:=by omega
  have hcl:=H.rd.cell hq
  have hfz:=H.rd.frozen
  have hk1:(q:Int) < (N:Int):=by omega
  have h2:decide ((N:Int) ≤ (q:Int))=false:=by simp;omega
  clear H hb hi
  go_enter Tryz.func112,Tryz.ntmps112
  go_wp2
  go_ret
  exact ⟨rfl,HH.out.setr hq,(HH.out.rd.set hq).2⟩
theorem rwrite_any (k:Int):Calls Tryz.prog 114 #[.pointer (some ⟨r,0,none⟩),.int .i64 k] w fun e w'=>e = .returned (.int .i64 (addE N k))∧RAt w' r g1 g2 N (wrS N s k)∧w.grownBy w' (some g2):=by
 have hc:=H.c1
 by_cases hb:k < 0 ∨ (N:Int) ≤ k
 ·have HR:Hid (RAt w r g1 g2 N (wrS N s k)):=qh (by unfold wrS;rw [addE_out hb,if_neg (by decide)];exact H)
  rw [addE_out hb]
  by_cases h0:k < 0
  ·clear H hb
   go_enter Tryz.func114,Tryz.ntmps114
   go_wp2
   go_ret
   exact ⟨rfl,HR.out,grown_refl _ _⟩
  ·have h1:(N:Int) ≤ k:=by omega
   have h2:decide ((N:Int) ≤ k)=true:=by simpa using h1
   have h3:decide (k < 0)=false:=by simp;omega
   clear H hb h0 h1
   go_enter Tryz.func114,Tryz.ntmps114
   go_wp2
   go_ret
   exact ⟨rfl,HR.out,grown_refl _ _⟩
 ·have hi:0 ≤ k∧k < (N:Int):=by omega
  have HI:=qh hi
  have HH:=qh H
  rw [addE_in hi]
  unfold wrS
  rw [addE_in hi,if_pos rfl]
  obtain ⟨q,rfl⟩:∃ q:Nat,k=(q:Int):=⟨k.toNat,by omega⟩
  have hq:q < N:=by omega
  have hcl:=H.wt.cell hq
  have hfz:=H.wt.frozen
  have hk1:(q:Int) < (N:Int):=by omega
  have h2:decide ((N:Int) ≤ (q:Int))=false:=by simp;omega
  clear H hb hi
  go_enter Tryz.func114,Tryz.ntmps114
  go_wp2
  go_ret
  exact ⟨rfl,HH.out.setw hq,(HH.out.wt.set hq).2⟩
theorem rhas_any (k:Int):Calls Tryz.prog 35 #[.pointer (some ⟨r,0,none⟩),.int .i64 k] w fun e w'=>e = .returned (.tuple #[.bool (s.r k),.bool (s.w k)])∧∃ n,w'=w.drewN n:=by
 have hc:=H.c0
 by_cases hb:k < 0 ∨ (N:Int) ≤ k
 ·obtain ⟨hr,hw⟩:=dom_out H.dom hb
  rw [hr,hw]
  by_cases h0:k < 0
  ·clear H hb hr hw
   go_enter Tryz.func35,Tryz.ntmps35
   go_wp2
   go_ret2
   exact ⟨rfl,0,rfl⟩
  ·have h1:(N:Int) ≤ k:=by omega
   have h2:decide ((N:Int) ≤ k)=true:=by simpa using h1
   have h3:decide (k < 0)=false:=by simp;omega
   clear H hb h0 h1 hr hw
   go_enter Tryz.func35,Tryz.ntmps35
   go_wp2
   go_ret2
   exact ⟨rfl,0,rfl⟩
 ·have hc1:=H.c1
  obtain ⟨q,rfl⟩:∃ q:Nat,k=(q:Int):=⟨k.toNat,by omega⟩
  have hq:q < N:=by omega
  have hcl:=H.rd.cell hq
  have hcw:=H.wt.cell hq
  have hk1:(q:Int) < (N:Int):=by omega
  have h2:decide ((N:Int) ≤ (q:Int))=false:=by simp;omega
  generalize s.r (q:Int)=R at hcl ⊢
  generalize s.w (q:Int)=W' at hcw ⊢
  clear H hb
  go_enter Tryz.func35,Tryz.ntmps35
  go_wp2_with fail
  go_quiet (fail)
  go_wp2_with fail
  go_ret2
  exact ⟨rfl,_,rfl⟩
theorem rmeets_any (kd k:Int):Calls Tryz.prog 156 #[.pointer (some ⟨r,0,none⟩),.int .u8 kd,.int .i64 k] w fun e w'=>e = .returned (.bool (meets s kd k))∧w.grownBy w' none:=by
 have ho:=rhas_any H k
 clear H
 unfold meets Ms.any
 generalize s.r k=R at ho ⊢
 generalize s.w k=X at ho ⊢
 have HO:=qh ho
 clear ho
 by_cases h4:kd=4
 ·subst h4
  cases R <;> cases X
  all_goals
   go_enter Tryz.func156,Tryz.ntmps156
   go_wp2_with (go_at_call 35;((with_reducible refine HO.out.mono ?_);rintro e w1 ⟨rfl,n,hw1⟩;have HW1:Hid (w.grownBy w1 none):=qh (by rw [hw1];exact grown_drewN (grown_refl _ _) _);clear hw1))
   go_ret
   exact ⟨rfl,HW1.out⟩
 ·by_cases h5:kd=5
  ·subst h5
   clear h4
   cases R <;> cases X
   all_goals
    go_enter Tryz.func156,Tryz.ntmps156
    go_wp2_with (go_at_call 35;((with_reducible refine HO.out.mono ?_);rintro e w1 ⟨rfl,n,hw1⟩;have HW1:Hid (w.grownBy w1 none):=qh (by rw [hw1];exact grown_drewN (grown_refl _ _) _);clear hw1))
    go_ret
    exact ⟨rfl,HW1.out⟩
  ·have e4:(kd == 4)=false:=by simpa using h4
   have e5:(kd == 5)=false:=by simpa using h5
   rw [decide_eq_false h4,decide_eq_false h5]
   clear h4 h5
   go_enter Tryz.func156,Tryz.ntmps156
   go_wp2_with (go_at_call 35;((with_reducible refine HO.out.mono ?_);rintro e w1 ⟨rfl,n,hw1⟩;have HW1:Hid (w.grownBy w1 none):=qh (by rw [hw1];exact grown_drewN (grown_refl _ _) _);clear hw1))
   go_ret
   exact ⟨rfl,HW1.out⟩
theorem rclear_any:Calls Tryz.prog 76 #[.pointer (some ⟨r,0,none⟩)] w fun e w'=>e = .returned (.tuple #[])∧∃ h1 h2,RAt w' r h1 h2 N Ms.zero∧w.grownBy w' (some r)∧w.heap.size ≤ h1∧w.heap.size ≤ h2:=by
 obtain ⟨cs,hcs,hcz,hmk⟩:=bools N H.small
 have hc0:=H.c0
 have hc1:=H.c1
 have hlt:=H.lt
 have HH:=qh H
 have HCS:=qh hcs
 have HCZ:=qh hcz
 have hfz:=fun j=>frozen_of_row _ _ j _ _ H.blk
 clear H hcs hcz
 go_enter Tryz.func76,Tryz.ntmps76
 go_wp2
 refine bodyPost_end (results_none rfl _ _ _) rfl ?_
 have hg:w.grownBy (w.setCells r 0 [.slice (some ⟨w.heap.size,0,none⟩) N N,.slice (some ⟨w.heap.size + 1,0,none⟩) N N]) (some r):=grown_setCells w r 0 _
 obtain ⟨cur',q1,q2,q3,q4⟩:=heap_setCells r 139 [.slice (some ⟨w.heap.size,0,none⟩) N N,.slice (some ⟨w.heap.size + 1,0,none⟩) N N] 0 w _ HH.out.blk (by simp)
 have hcur:cur'=#[.slice (some ⟨w.heap.size,0,none⟩) N N,.slice (some ⟨w.heap.size + 1,0,none⟩) N N]:=by
  apply Array.ext_getElem?
  intro i
  match i with
  | 0=>exact q4 0 _ rfl
  | 1=>exact q4 1 _ rfl
  | n + 2=>rw [Array.getElem?_eq_none (by rw [q2];simp),Array.getElem?_eq_none (by simp)]
 rw [hcur] at q1
 have hsz:(w.setCells r 0 [.slice (some ⟨w.heap.size,0,none⟩) N N,.slice (some ⟨w.heap.size + 1,0,none⟩) N N]).heap.size=w.heap.size:=by simp [World.setCells,World.size_setCell]
 change (_∧∃ h1 h2,RAt (((w.setCells r 0 [.slice (some ⟨w.heap.size,0,none⟩) N N,.slice (some ⟨w.heap.size + 1,0,none⟩) N N]).alloc (.cells cs 4)).alloc (.cells cs 4)) r h1 h2 N Ms.zero∧w.grownBy (((w.setCells r 0 [.slice (some ⟨w.heap.size,0,none⟩) N N,.slice (some ⟨w.heap.size + 1,0,none⟩) N N]).alloc (.cells cs 4)).alloc (.cells cs 4)) (some r)∧_)
 generalize w.setCells r 0 [.slice (some ⟨w.heap.size,0,none⟩) N N,.slice (some ⟨w.heap.size + 1,0,none⟩) N N]=W at hg q1 hsz ⊢
 have hb1:BAt (W.alloc (.cells cs 4)) w.heap.size N (fun _=>false):=by have:=BAt.new W cs N HCS.out HCZ.out;rwa [hsz] at this
 have hb2:BAt ((W.alloc (.cells cs 4)).alloc (.cells cs 4)) (w.heap.size + 1) N (fun _=>false):=by have:=BAt.new (W.alloc (.cells cs 4)) cs N HCS.out HCZ.out;rwa [World.size_alloc,hsz] at this
 refine ⟨rfl,w.heap.size,w.heap.size + 1,⟨?_,hb1.same (Below.heap_alloc _ _ _ hb1.lt),hb2,by omega,dom_zero _,HH.out.small⟩,?_,Nat.le_refl _,Nat.le_succ _⟩
 ·rw [Below.heap_alloc _ _ _ (by simp;omega),Below.heap_alloc _ _ _ (by omega)];exact q1
 ·exact grown_alloc (grown_alloc hg _) _
end
end Go.Proofs.YtcoimipgilkmbaaGreatDoor.mrk

namespace Go.Proofs.YtcoimipgilkmbaaGreatDoor.mrk
set_option linter.unusedVariables false
set_option linter.unusedSimpArgs false
set_option maxRecDepth 1000000
set_option maxHeartbeats 16000000
open Go Go.ChangeShapes Go.WideShapes Go.ChangeAt Go.RowKit Go.Maps Go.Sort
open Go.Proofs.YtcoimipgilkmbaaGreatDoor.tt (Cfg Tab CfgAt cfg_at rdata_any grown_refl grown_alloc grown_trans grown_drew grown_drewN lt_of tyne)
theorem ref_new (w:World) (cs:Array Value) (N:Nat) (hcs:cs.size=N) (hcz:∀ k:Nat,k < N→cs[k]?=some (.bool false)) (hN:N ≤ 256) (g1 g2:Nat) (h:(g1=w.heap.size∧g2=w.heap.size + 1) ∨ (g1=w.heap.size + 1∧g2=w.heap.size)) :
  RAt (((w.alloc (.cells cs 4)).alloc (.cells cs 4)).alloc (.cells #[.slice (some ⟨g1,0,none⟩) N N,.slice (some ⟨g2,0,none⟩) N N] 139)).drew (w.heap.size + 1 + 1) g1 g2 N Ms.zero:=by
 have hb1:BAt (w.alloc (.cells cs 4)) w.heap.size N (fun _=>false):=BAt.new w cs N hcs hcz
 have hb2:BAt ((w.alloc (.cells cs 4)).alloc (.cells cs 4)) (w.heap.size + 1) N (fun _=>false):=by have:=BAt.new (w.alloc (.cells cs 4)) cs N hcs hcz;rwa [World.size_alloc] at this
 have hb3:=hb1.same (Below.heap_alloc _ (.cells cs 4) _ hb1.lt)
 obtain ⟨x,hx⟩:∃ x:Obj,x = .cells #[.slice (some ⟨g1,0,none⟩) N N,.slice (some ⟨g2,0,none⟩) N N] 139:=⟨_,rfl⟩
 have hb:=heap_alloc_new ((w.alloc (.cells cs 4)).alloc (.cells cs 4)) (.cells #[.slice (some ⟨g1,0,none⟩) N N,.slice (some ⟨g2,0,none⟩) N N] 139)
 rw [World.size_alloc,World.size_alloc] at hb
 rcases h with ⟨rfl,rfl⟩ | ⟨rfl,rfl⟩
 ·exact ⟨hb,hb3.same (Below.heap_alloc _ _ _ hb3.lt),hb2.same (Below.heap_alloc _ _ _ hb2.lt),by omega,dom_zero _,hN⟩
 ·exact ⟨hb,hb2.same (Below.heap_alloc _ _ _ hb2.lt),hb3.same (Below.heap_alloc _ _ _ hb3.lt),by omega,dom_zero _,hN⟩
theorem rnew_any (c:Cfg) (N:Nat) (w:World) (hm:c.may) (hN:c.data=(N:Int)) (hN1:N ≤ 256):Calls Tryz.prog 67 #[.agg c.cells] w fun e w'=>∃ r g1 g2,e = .returned (.pointer (some ⟨r,0,none⟩))∧RAt w' r g1 g2 N Ms.zero∧w.grownBy w' none∧w.heap.size ≤ r∧w.heap.size ≤ g1∧w.heap.size ≤ g2:=by
 obtain ⟨cs,hcs,hcz,hmk⟩:=bools N hN1
 have hg0:w.grownBy (w.alloc (.cells c.cells 27)) none:=grown_alloc (grown_refl _ _) _
 have HG0:=qh hg0
 obtain ⟨d0,d1,d2,d3,d4,d5,d6,d7⟩:=cfg_at w c
 have HDA:Hid (∀ w',_):=qh fun w'=>rdata_any c w' hm.fits
 rw [hN] at HDA
 have HCS:=qh hcs
 have HCZ:=qh hcz
 have HS:=qh hN1
 clear hm hN hN1 hg0 hcs hcz
 unfold Cfg.cells at HG0 HDA d0 d1 d2 d3 d4 d5 d6 d7 ⊢
 go_enter Tryz.func67,Tryz.ntmps67
 go_wp2_with (go_at_call 31;((with_reducible refine (HDA.out _).mono ?_);rintro e w3 ⟨rfl,hg3⟩;have HG3:=qh (grown_trans HG0.out hg3);clear hg3 d0 d1 d2 d3 d4 d5 d6 d7))
 have hmk1:=fun (w:World)=>hmk w
 go_region_with (fail)
 all_goals
  go_wp2_with fail
  go_ret
  have hs0:=HG3.out.size
  first
   | exact ⟨_,_,_,rfl,ref_new w3 cs N HCS.out HCZ.out HS.out _ _ (.inl ⟨rfl,rfl⟩),grown_drew (grown_alloc (grown_alloc (grown_alloc HG3.out _) _) _),by omega,by omega,by omega⟩
   | exact ⟨_,_,_,rfl,ref_new w3 cs N HCS.out HCZ.out HS.out _ _ (.inr ⟨rfl,rfl⟩),grown_drew (grown_alloc (grown_alloc (grown_alloc HG3.out _) _) _),by omega,by omega,by omega⟩
structure Both (w w1:World) (t b r g1 g2 N:Nat) (s:Ms):Prop where
 own:Own w w1 t b N s
 ref:RAt w1 r g1 g2 N s
 hr:w.heap.size ≤ r
 h1:w.heap.size ≤ g1
 h2:w.heap.size ≤ g2
section
variable {w w1 w2:World} {t b r g1 g2 N:Nat} {s s2:Ms}
theorem Both.grown (h:Both w w1 t b r g1 g2 N s) (hg:w1.grownBy w2 none):Both w w2 t b r g1 g2 N s:=⟨h.own.grown hg,h.ref.grown hg,h.hr,h.h1,h.h2⟩
theorem RAt.keep (A:RAt w1 r g1 g2 N s) (h:Own w w1 t b N s2) (hg:w1.grownBy w2 (some b)):RAt w2 r g1 g2 N s:=by
 obtain ⟨c1,a1,_⟩:=A.rd
 obtain ⟨c2,a2,_⟩:=A.wt
 exact A.of_block ((h.cells hg A.blk).trans A.blk.symm) ((h.cells hg a1).trans a1.symm) ((h.cells hg a2).trans a2.symm)
theorem Own.aside (h:Own w w1 t b N s) {g:Nat} {cs:Array Value} {ty:TypeId} {fr:Nat × Nat} (hc:w1.heap[g]?=some (.cells cs ty fr)) (hty:ty ≠ 161) (hg:w1.grownBy w2 (some g)) (hge:w.heap.size ≤ g):Own w w2 t b N s:=by
 refine ⟨h.mq.of_block (hg.block t h.mq.lt (fun e=>?_)) (hg.block b h.mq.map.lt (fun e=>?_)),old_next h.old hge hg,h.hb⟩
 ·have:=h.mq.blk
  rw [Option.some.inj e,hc] at this
  simp at this
  exact hty this.2.1
 ·obtain ⟨es,c,hb,_⟩:=h.mq.map
  rw [Option.some.inj e,hc] at hb
  cases hb
end
end Go.Proofs.YtcoimipgilkmbaaGreatDoor.mrk
