/-
 A job of the document's home as one value: out of a slice, into a variable; where a job, its ask, an entry lie in a home. No condition but the bounds that each theorem names.
-/
import Derived.Test.YtenhdijbcdkfbaaGreatDoorTl
import Derived.Test.YtenhdijbcdkfbaaGreatDoorRhA
namespace Go.Proofs.YtenhdijbcdkfbaaGreatDoor.hh
set_option linter.unusedVariables false
set_option linter.unusedSimpArgs false
set_option maxRecDepth 1000000
set_option maxHeartbeats 16000000
open Go Go.ChangeShapes Go.WideShapes Go.ChangeAt Go.RowKit
open Go.Proofs.YtenhdijbcdkfbaaGreatDoor.tt (Nt Cfg fits net bare zd usd uses coreOf ok_ends flat na nt zn grown_alloc grown_refl grown_trans tyne lt_of add_lit)
open Go.Proofs.YtenhdijbcdkfbaaGreatDoor.en (En gets back asked asks free ask_parts may_parts)
def ja (o:Option Jb):Array Value:=(jt o).toArray
theorem ja_size (o:Option Jb):(ja o).size=29:=by simp [ja,jt_len]
theorem ja_one (o:Option Jb):(ja o).all (·.oneCell')=true:=all_oneCell_toArray (jt_one o)
theorem jinfo:(Tryz.prog.info? 63).map (·.size)=some 29:=by kernel_rfl
theorem jinfo' (o:Option Jb):(Tryz.prog.info? 63).map (·.size)=some (jt o).length:=by rw [jt_len];exact jinfo
theorem jinfoa (o:Option Jb):(Tryz.prog.info? 63).map (·.size)=some (ja o).size:=by rw [ja_size];exact jinfo
theorem jt_is (o:Option Jb):(jt o)[0]?=some (.bool o.isSome):=by cases o <;> rfl
theorem jt_nt (j:Jb) (i:Nat) (v:Value) (h:(nt j.a)[i]?=some v):(jt (some j))[1 + i]?=some v:=by
 have hi:i < (nt j.a).length:=(List.getElem?_eq_some_iff.1 h).1
 rw [Nat.add_comm,jt,List.getElem?_cons_succ,List.getElem?_append_left hi];exact h
theorem jt_last (j:Jb):(jt (some j))[25]?=some (.int .u32 (j.w:Int))∧(jt (some j))[26]?=some (.bool j.d)∧(jt (some j))[27]?=some (.bool j.r)∧(jt (some j))[28]?=some (.int .u64 j.l):=by
 have h:(nt j.a).length=24:=tt.nt_len _
 refine ⟨?_,?_,?_,?_⟩ <;> (rw [jt,List.getElem?_cons_succ,List.getElem?_append_right (by omega),h];rfl)
theorem jt_none:(jt none)[25]?=some (.int .u32 0)∧(jt none)[26]?=some (.bool false)∧(jt none)[27]?=some (.bool false)∧(jt none)[28]?=some (.int .u64 0):=⟨rfl,rfl,rfl,rfl⟩
theorem namedJ:∃ (t:TypeId) (m:Nat),Hid (Op.load 63=Op.load t)∧(∀ w,(isAgg t).run Tryz.prog w = .ok true w)∧(∀ w,(sizeOf t).run Tryz.prog w = .ok m w) ∧
  ∀ (g o:Nat) (j:Option Jb) (w:World),w.rangeAt g o (jt j)→(loadCellsFrom ⟨g,o,none⟩ 0 m #[]).run Tryz.prog w = .ok (ja j) w:=
 ⟨63,29,qh rfl,Tryz.isAgg63,Tryz.sizeOf63,fun g o j w h=>by
  have:=run_loadCells_list (P:=Tryz.prog) w ⟨g,o,none⟩ (jt j) (fun i v hv=>by rw [add_lit];exact h i v hv)
  simpa [loadCells,jt_len,ja] using this⟩
section
variable {w:World} {ops:Array Oper} {rest:List Oper} {a:Act} {Q:Exit→Act→World→Prop} {dst:Option Tmp} {ty:TypeId} {pos:String} {after:Array Edge}
theorem load_jt (j:Option Jb) (x:Tmp) (g o:Nat) (hx:a.eval (.tmp x) = .pointer (some ⟨g,o,none⟩)) (hg:w.rangeAt g o (jt j))
  (h:wpList Tryz.prog ops Q rest (a.put dst (.agg (ja j))) w):wpList Tryz.prog ops Q (⟨dst,.load 63 (.tmp x),ty,pos,after,none⟩ :: rest) a w:=
 wpList_load_mid rfl 63 (.tmp x) rfl g o hx (jt j) _ hg Tryz.underlying63 rfl (jinfo' j) h
theorem store_jnew (j:Option Jb) (c:Array Value) (x y:Tmp) (hx:a.eval (.tmp x) = .pointer (some ⟨w.heap.size,0,none⟩)) (hy:a.eval (.tmp y) = .agg (ja j)) (hc:c.size=29)
  (h:wpList Tryz.prog ops Q rest (a.put dst undef) (w.alloc (.cells (ja j) 63))):wpList Tryz.prog ops Q (⟨dst,.store 63 (.tmp x) (.tmp y),ty,pos,after,none⟩ :: rest) a (w.alloc (.cells c 63)):=by
 refine wpList_store_row rfl 63 (.tmp x) (.tmp y) rfl w.heap.size (ja j) hx hy 63 _ (heap_alloc_new _ _) (jinfoa j) (by rw [ja_size,hc]) (ja_one j) ?_
 rw [World.setRow_alloc_new];exact h
end
section
variable {w:World} {h:Nat} {c:Cfg} {F:Fr} {H:Hm}
theorem RefAt.jobRange (A:RefAt w h c F H) {b:Nat} (hb:b < H.jb.length):∃ g off cap,F.jv = .slice (some ⟨g,off,none⟩) H.jb.length cap∧w.rangeAt g (off + b * 29) (jt (jbOf H b)):=by
 obtain ⟨g,off,cap,e,_,hr⟩:=A.jobAt hb
 exact ⟨g,off,cap,e,fun i v hv=>hr i v hv⟩
theorem ask_range {g o:Nat} {j:Jb} (hr:w.rangeAt g o (jt (some j))):w.rangeAt g (o + 1) (nt j.a):=fun i v hv=>by
 have:=hr (1 + i) v (jt_nt j i v hv)
 rwa [← Nat.add_assoc] at this
end
end Go.Proofs.YtenhdijbcdkfbaaGreatDoor.hh
