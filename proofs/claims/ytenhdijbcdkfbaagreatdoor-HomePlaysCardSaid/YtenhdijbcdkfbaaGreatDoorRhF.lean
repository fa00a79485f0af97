/-
 One cell of a job of the document's home was written: that it is answered. No condition but the bounds that each theorem names.
-/
import Derived.Test.YtenhdijbcdkfbaaGreatDoorTl
import Derived.Test.YtenhdijbcdkfbaaGreatDoorRhB
namespace Go.Proofs.YtenhdijbcdkfbaaGreatDoor.tt
set_option linter.unusedVariables false
set_option linter.unusedSimpArgs false
set_option maxRecDepth 1000000
set_option maxHeartbeats 16000000
open Go Go.ChangeShapes Go.WideShapes Go.ChangeAt Go.RowKit
theorem sl_cell {α:Type} {f:α→List Value} {s:Nat} (hf:∀ x,(f x).length=s) (hs:0 < s) {w:World} {e:TypeId} {g off cap n:Nat} {xs:List α} (h:Sl w e s (.slice (some ⟨g,off,none⟩) n cap) xs.length (flat f xs)) {b:Nat} {y:α} (hy:xs[b]?=some y) {i:Nat} (hi:i < s) {v:Value} (x:α) (hx:f x=(f y).set i v) :
  Sl (w.setCell ⟨g,off + b * s + i,none⟩ v) e s (.slice (some ⟨g,off,none⟩) n cap) (xs.set b x).length (flat f (xs.set b x))∧w.grownBy (w.setCell ⟨g,off + b * s + i,none⟩ v) (some g):=by
 have hb:b < xs.length:=(List.getElem?_eq_some_iff.1 hy).1
 refine ⟨?_,grown_setCells w g (off + b * s + i) [v]⟩
 rcases h with ⟨e1,_⟩ | ⟨g',off',cap',cur,e1,hcur,h1,h2,h3,h4,h5⟩
 ·cases e1
 cases e1
 have hbc:b * s + s ≤ cap * s:=by
  have:=Nat.mul_le_mul_right s (show b + 1 ≤ cap by omega)
  rwa [Nat.succ_mul] at this
 obtain ⟨cur',q1,q2,q3,q4⟩:=heap_setCells g e [v] (off + b * s + i) w cur hcur (by simp;omega)
 refine .inr ⟨g,off,cap,cur',by rw [List.length_set],q1,by rw [flat_len hf],by rw [List.length_set];exact h2,h3,by omega,fun k u hk=>?_⟩
 have hk':k < (xs.set b x).length * s:=by rw [← flat_len hf];exact (List.getElem?_eq_some_iff.1 hk).1
 have hd:k / s < (xs.set b x).length:=(Nat.div_lt_iff_lt_mul hs).2 hk'
 have hm:k % s < s:=Nat.mod_lt _ hs
 have hkk:k / s * s + k % s=k:=Nat.div_add_mod' k s
 obtain ⟨z,hz⟩:∃ z,(xs.set b x)[k / s]?=some z:=⟨_,List.getElem?_eq_getElem hd⟩
 obtain ⟨u',hu⟩:∃ u,(f z)[k % s]?=some u:=⟨_,List.getElem?_eq_getElem (by rw [hf];exact hm)⟩
 have hyu:=flat_at hf _ _ z _ u' hz hu
 rw [hkk,hk] at hyu
 cases hyu
 by_cases hkb:k / s=b
 ·have hzx:z=x:=by rw [hkb,List.getElem?_set_self hb] at hz;exact (Option.some.inj hz).symm
  subst hzx
  rw [hkb] at hkk
  rw [hx] at hu
  by_cases hki:k % s=i
  ·rw [hki,List.getElem?_set_self (by rw [hf];exact hi)] at hu
   have:=q4 0 v rfl
   rw [show off + b * s + i + 0=off + k by omega] at this
   rw [this];exact hu
  ·rw [List.getElem?_set_ne (fun e=>hki e.symm)] at hu
   rw [q3 (off + k) (by simp;omega)]
   have:=h5 _ _ (flat_at hf _ _ y _ u hy hu)
   rw [hkk] at this
   exact this
 ·rw [List.getElem?_set_ne (fun e=>hkb e.symm)] at hz
  have hfar:off + k < off + b * s + i ∨ off + b * s + i + [v].length ≤ off + k:=by
   simp only [List.length_singleton]
   rcases Nat.lt_or_gt_of_ne hkb with hl | hl
   ·have:=Nat.mul_le_mul_right s (show k / s + 1 ≤ b from hl)
    rw [Nat.succ_mul] at this
    omega
   ·have:=Nat.mul_le_mul_right s (show b + 1 ≤ k / s from hl)
    rw [Nat.succ_mul] at this
    omega
  rw [q3 (off + k) hfar]
  refine h5 k u ?_
  have:=flat_at hf _ _ z _ u hz hu
  rwa [hkk] at this
end Go.Proofs.YtenhdijbcdkfbaaGreatDoor.tt
namespace Go.Proofs.YtenhdijbcdkfbaaGreatDoor.hh
set_option linter.unusedVariables false
set_option linter.unusedSimpArgs false
set_option maxRecDepth 1000000
set_option maxHeartbeats 16000000
open Go Go.ChangeShapes Go.WideShapes Go.ChangeAt Go.RowKit
open Go.Proofs.YtenhdijbcdkfbaaGreatDoor.tt (Nt Cfg fits net bare zd usd uses coreOf ok_ends flat na nt zn grown_alloc grown_refl grown_trans tyne lt_of add_lit)
open Go.Proofs.YtenhdijbcdkfbaaGreatDoor.en (En gets back asked asks free ask_parts may_parts)
theorem jt_done (j:Jb):jt (some { j with d:=true })=(jt (some j)).set 26 (.bool true):=by
 have h:(nt j.a).length=24:=tt.nt_len _
 show Value.bool true :: (nt j.a ++ [.int .u32 (j.w:Int),.bool true,.bool j.r,.int .u64 j.l])=(Value.bool true :: (nt j.a ++ [.int .u32 (j.w:Int),.bool j.d,.bool j.r,.int .u64 j.l])).set 26 (.bool true)
 rw [List.set_cons_succ,List.set_append_right _ _ (by omega),h];rfl
section
variable {w:World} {h:Nat} {c:Cfg} {F:Fr} {H:Hm}
theorem RefAt.setDone (A:RefAt w h c F H) {g off cap n:Nat} (hv:F.jv = .slice (some ⟨g,off,none⟩) n cap) {b:Nat} {j:Jb} (hj:H.jb[b]?=some (some j)) (hI:Inv c { H with jb:=H.jb.set b (some { j with d:=true }) }) :
  RefAt (w.setCell ⟨g,off + b * 29 + 26,none⟩ (.bool true)) h c F { H with jb:=H.jb.set b (some { j with d:=true }) }∧w.grownBy (w.setCell ⟨g,off + b * 29 + 26,none⟩ (.bool true)) (some g):=by
 have hE:=A.job
 rw [hv] at hE
 obtain ⟨_,hcur⟩:=hE.type g rfl
 obtain ⟨hs,hg⟩:=tt.sl_cell jt_len (by decide) hE hj (i:=26) (by decide) (v:= .bool true) (some { j with d:=true }) (jt_done j)
 have ne:∀ {i:Nat} {cs t fr},w.heap[i]?=some (.cells cs t fr)→t ≠ 63→some i ≠ some g:=fun hi ht e=>tyne hi hcur ht (Option.some.inj e)
 exact ⟨⟨(hg.block h A.lt (ne A.blk (by decide))).trans A.blk,rmem_of_block A.mem (hg.block _ A.mem.lt (ne A.mem.blk (by decide))) (fun k e=>by obtain ⟨_,hb⟩:=A.mem.bl k e;exact hg.block k (lt_of hb) (ne hb (by decide))),
  A.ent.of_block fun k e=>hg.block k (A.ent.lt k e) (by obtain ⟨_,hb⟩:=A.ent.type k e;exact ne hb (by decide)),by rw [hv];exact hs,
  A.wt.of_block fun k e=>hg.block k (A.wt.lt k e) (by obtain ⟨_,hb⟩:=A.wt.type k e;exact ne hb (by decide)),hI,A.low⟩,hg⟩
end
end Go.Proofs.YtenhdijbcdkfbaaGreatDoor.hh
