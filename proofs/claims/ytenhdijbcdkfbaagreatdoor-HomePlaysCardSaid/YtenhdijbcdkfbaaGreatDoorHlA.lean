/-
 What a home makes of a row of notes; two homes side by side; what went out, kept: laws. No condition but what each theorem names.
-/
import Derived.Test.YtenhdijbcdkfbaaGreatDoorTl
import Derived.Test.YtenhdijbcdkfbaaGreatDoorHkT
import Derived.Test.YtenhdijbcdkfbaaGreatDoorHoC
namespace Go.Proofs.YtenhdijbcdkfbaaGreatDoor.hh
set_option linter.unusedVariables false
set_option linter.unusedSimpArgs false
set_option maxRecDepth 1000000
set_option maxHeartbeats 16000000
open Go Go.ChangeShapes Go.WideShapes Go.ChangeAt Go.RowKit
open Go.Proofs.YtenhdijbcdkfbaaGreatDoor.tt (Nt Cfg fits net bare zd usd uses coreOf ok_ends MapAt mput mdel ik NPool NSl Turn flat na nt zn grown_alloc grown_refl grown_trans tyne lt_of)
open Go.Proofs.YtenhdijbcdkfbaaGreatDoor.en (En gets back asked asks free ask_parts may_parts ea)
open Go.Proofs.YtenhdijbcdkfbaaGreatDoor.mm (wi wo ones wo_lt)
theorem take_snoc {l:List Nt} {j:Nat} {n:Nt} (h:l[j]?=some n):l.take (j + 1)=l.take j ++ [n]:=by
 rw [List.take_add_one,h];rfl
theorem room80 {c:Cfg} (hc:c.may):room c ≤ 80:=by
 have h1:=tt.hb_bounds (hc.1 0 (by omega))
 have h2:=tt.hb_bounds (hc.1 5 (by omega))
 have h1':1 ≤ c.co∧c.co ≤ 16:=h1
 have h2':1 ≤ c.ba∧c.ba ≤ 4:=h2
 have u:c.co * (c.ba + 1) ≤ 16 * 5:=Int.mul_le_mul h1'.2 (by omega) (by omega) (by decide)
 unfold room roomH
 omega
theorem fin_len80 {w:World} {h:Nat} {c:Cfg} {F:Ft} {H:Hm} (A:HomeAt w h c F H) (jb:List (Option Jb)) (mm:List (List Int)) (b:Nat):(fin { H with jb:=jb,mm:=mm } b).2.length ≤ 2640:=by
 have h1:=run_len b H.wt { H with jb:=jb.set b none,mm:=mm } []
 have h2:=A.full
 have h3:=room80 A.inv.may
 unfold fin
 dsimp only
 omega
theorem answer_len (H:Hm) (b:Nat):(answer H b).2.length ≤ 1:=by
 unfold answer;split <;> simp
theorem take_len {w:World} {h:Nat} {c:Cfg} {F:Ft} {H:Hm} (A:HomeAt w h c F H) (n:Nt):(take c H n).2.1.length ≤ 2641:=by
 by_cases hr:ready c H n=0
 ·rcases take_ways A.inv n hr with ⟨_,_,_,e⟩ | ⟨_,_,e⟩ | ⟨_,_,e⟩ | ⟨_,j,_,_,_,⟨_,e⟩ | ⟨_,_,e⟩ | ⟨_,_,e⟩⟩ <;> rw [e]
  ·simp
  ·have:=begin1_len H n;dsimp only;omega
  ·exact Nat.le_trans (fin_len80 A H.jb H.mm n.b.toNat) (by omega)
  ·simp
  ·have:=fin_len80 A (H.jb.set n.b.toNat (some (noted j n))) (if n.h then H.mm.set n.b.toNat n.d else H.mm) n.b.toNat
   dsimp only at this ⊢
   rw [List.length_cons];omega
  ·have:=answer_len { H with mm:=if n.h then H.mm.set n.b.toNat n.d else H.mm,jb:=H.jb.set n.b.toNat (some (noted j n)) } n.b.toNat;dsimp only at this ⊢;omega
 ·rw [take_err hr];simp
theorem HomeAt.apart {w w':World} {h h':Nat} {c c':Cfg} {F F' G:Ft} {H H':Hm} (A:HomeAt w h c F H) (B:HomeAt w h' c' G H') (D:Did w w' F F') (hd:∀ i,F.own i→¬ G.own i):HomeAt w' h' c' G H':=
 B.keep fun i hi ho=>D.block i hi (fun e=>by
  rcases ho with ho | ho | ho | ⟨cs,fr,ho⟩
  ·exact hd i e ho
  ·rw [ho] at e;exact A.not_own B.blk (by decide) (by decide) (by decide) (by decide) e
  ·rw [ho] at e;exact A.not_own B.mem.blk (by decide) (by decide) (by decide) (by decide) e
  ·exact A.not_own ho (by decide) (by decide) (by decide) (by decide) e)
theorem Did.apart {w w':World} {h':Nat} {c':Cfg} {F F' G:Ft} {H':Hm} (D:Did w w' F F') (B:HomeAt w h' c' G H') (hd:∀ i,F.own i→¬ G.own i):∀ i,F'.own i→¬ G.own i:=fun i hi hg=>by
 have hl:=B.own_lt hg
 exact D.own hl (fun e=>hd i e hg) hi
structure Kept (w:World) (vs:List Value) (os:List (List Nt)):Prop where
 len:vs.length=os.length
 row:∀ (i:Nat) v o,vs[i]?=some v→os[i]?=some o→NSl w v o
def Off (P:Nat→Prop) (vs:List Value):Prop:=∀ v ∈ vs,∀ k,v.ownBlock=some k→P k
theorem Kept.lt {w:World} {vs:List Value} {os:List (List Nt)} (K:Kept w vs os) {v:Value} (hv:v ∈ vs) {k:Nat} (hk:v.ownBlock=some k):k < w.heap.size:=by
 obtain ⟨i,hi⟩:=List.getElem?_of_mem hv
 obtain ⟨hl,_⟩:=List.getElem?_eq_some_iff.1 hi
 exact (K.row i v _ hi (List.getElem?_eq_getElem (by rw [← K.len];exact hl))).lt k hk
theorem Kept.type {w:World} {vs:List Value} {os:List (List Nt)} (K:Kept w vs os) {v:Value} (hv:v ∈ vs) {k:Nat} (hk:v.ownBlock=some k):∃ cur,w.heap[k]?=some (.cells cur 45 (0,0)):=by
 obtain ⟨i,hi⟩:=List.getElem?_of_mem hv
 obtain ⟨hl,_⟩:=List.getElem?_eq_some_iff.1 hi
 exact (K.row i v _ hi (List.getElem?_eq_getElem (by rw [← K.len];exact hl))).type k hk
theorem Kept.same {w w':World} {vs:List Value} {os:List (List Nt)} (K:Kept w vs os) (h:∀ v ∈ vs,∀ k,v.ownBlock=some k→w'.heap[k]?=w.heap[k]?):Kept w' vs os:=
 ⟨K.len,fun i v o hv ho=>(K.row i v o hv ho).of_block fun k hk=>h v (List.mem_of_getElem? hv) k hk⟩
theorem Kept.grown {w w':World} {vs:List Value} {os:List (List Nt)} (K:Kept w vs os) (hg:w.grownBy w' none):Kept w' vs os:=K.same fun v hv k hk=>hg.block k (K.lt hv hk) (by simp)
theorem Kept.did {w w':World} {F F':Ft} {vs:List Value} {os:List (List Nt)} (K:Kept w vs os) (D:Did w w' F F') (h:Off (fun k=>¬ F.own k) vs):Kept w' vs os∧Off (fun k=>¬ F'.own k) vs:=
 ⟨K.same fun v hv k hk=>D.block k (K.lt hv hk) (h v hv k hk),fun v hv k hk=>D.own (K.lt hv hk) (h v hv k hk)⟩
theorem Kept.snoc {w:World} {vs:List Value} {os:List (List Nt)} (K:Kept w vs os) {v:Value} {o:List Nt} (h:NSl w v o):Kept w (vs ++ [v]) (os ++ [o]):=by
 refine ⟨by simp [K.len],fun i x y hx hy=>?_⟩
 rw [List.getElem?_append] at hx hy
 split at hx
 ·rename_i hi
  rw [if_pos (by rw [← K.len];exact hi)] at hy
  exact K.row i x y hx hy
 ·rename_i hi
  rw [if_neg (by rw [← K.len];exact hi)] at hy
  rw [← K.len] at hy
  cases hj:i - vs.length with
  | zero=>
   rw [hj] at hx hy
   simp at hx hy
   subst hx hy;exact h
  | succ j=>rw [hj] at hx;simp at hx
theorem Off.snoc {P:Nat→Prop} {vs:List Value} (h:Off P vs) {v:Value} (hv:∀ k,v.ownBlock=some k→P k):Off P (vs ++ [v]):=fun x hx k hk=>by
 rcases List.mem_append.1 hx with hx | hx
 ·exact h x hx k hk
 ·rw [List.mem_singleton.1 hx] at hk;exact hv k hk
theorem Off.mono {P Q:Nat→Prop} {vs:List Value} (h:Off P vs) (k:∀ i,P i→Q i):Off Q vs:=fun x hx i hi=>k i (h x hx i hi)
theorem HomeAt.wrote {w w':World} {h:Nat} {c:Cfg} {F:Ft} {H:Hm} (A:HomeAt w h c F H) {own:Option Nat} (hg:w.grownBy w' own) (ht:∀ k,own=some k→∃ cur,w.heap[k]?=some (.cells cur 24 (0,0))):HomeAt w' h c F H:=by
 cases own with
 | none=>exact A.grown hg
 | some k=>
  obtain ⟨cur,hc⟩:=ht k rfl
  exact A.other hg (A.not_own hc (by decide) (by decide) (by decide) (by decide)) (tyne hc A.blk (by decide)) (tyne hc A.mem.blk (by decide)) (fun cs fr e=>tyne hc e (by decide) rfl)
theorem Own.wrote {w w1 w2:World} {h:Nat} {c:Cfg} {F:Ft} {H:Hm} (O:Own w w1 h c F H) {own:Option Nat} (hg:w1.grownBy w2 own) (ht:∀ k,own=some k→∃ cur,w1.heap[k]?=some (.cells cur 24 (0,0))) (hl:∀ k,own=some k→w.heap.size ≤ k):Own w w2 h c F H:=
 ⟨O.at'.wrote hg ht,⟨hg.os.trans O.old.os,hg.tape.trans O.old.tape,hg.output.trans O.old.output,Nat.le_trans O.old.size hg.size,fun k hk _=>(hg.block k (Nat.lt_of_lt_of_le hk O.old.size) (fun e=>by have:=hl k e.symm;omega)).trans (O.old.block k hk (by simp))⟩,O.fresh⟩
theorem Kept.wrote {w w':World} {vs:List Value} {os:List (List Nt)} (K:Kept w vs os) {own:Option Nat} (hg:w.grownBy w' own) (ht:∀ k,own=some k→∃ cur,w.heap[k]?=some (.cells cur 24 (0,0))):Kept w' vs os:=
 K.same fun v hv k hk=>hg.block k (K.lt hv hk) (fun e=>by
  obtain ⟨c1,h1⟩:=K.type hv hk
  obtain ⟨c2,h2⟩:=ht k e.symm
  exact tyne h1 h2 (by decide) rfl)
def m0 (c:Cfg):List (List Int):=List.replicate c.bl.toNat pp.zero
theorem m0_len {c:Cfg} (h:c.may):((m0 c).length:Int)=c.bl:=by
 have:=h.fits.bl
 unfold m0
 rw [List.length_replicate];omega
theorem mem_new {c:Cfg} (h:c.may) (w:World):Calls Tryz.prog 5 #[.int .i64 c.bl] w fun e w'=>∃ b v,e = .returned (.tuple #[.pointer (some ⟨b,0,none⟩),.int .i64 0])∧pp.Mem w' b v (m0 c)∧w.grownBy w' none∧w.heap.size ≤ b∧∀ k,v.ownBlock=some k→w.heap.size ≤ k:=by
 have hb:=h.fits.bl
 have e:((c.bl.toNat:Nat):Int)=c.bl:=by omega
 have:=pp.new_ok c.bl.toNat w (by omega) (by omega)
 rw [e] at this
 exact this
end Go.Proofs.YtenhdijbcdkfbaaGreatDoor.hh
