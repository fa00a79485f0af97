/-
 The program's home and the document's, side by side: where both lie, apart; what the calls on both make of them: definitions and contracts. Condition: the tables lie in their variables as the program's text has them.
-/
import Derived.Test.YtenhdijbcdkfbaaGreatDoorTl
import Derived.Test.YtenhdijbcdkfbaaGreatDoorHlA
import Derived.Test.YtenhdijbcdkfbaaGreatDoorRhO
import Derived.Test.YtenhdijbcdkfbaaGreatDoorRhN
import Derived.Test.YtenhdijbcdkfbaaGreatDoorRhE
namespace Go.Proofs.YtenhdijbcdkfbaaGreatDoor.hh
set_option linter.unusedVariables false
set_option linter.unusedSimpArgs false
set_option maxRecDepth 1000000
set_option maxHeartbeats 16000000
open Go Go.ChangeShapes Go.WideShapes Go.ChangeAt Go.RowKit
open Go.Proofs.YtenhdijbcdkfbaaGreatDoor.tt (Nt Cfg fits net bare zd usd uses coreOf ok_ends MapAt mput mdel ik NPool NSl Turn flat na nt zn grown_alloc grown_refl grown_trans tyne lt_of)
open Go.Proofs.YtenhdijbcdkfbaaGreatDoor.en (En gets back asked asks free ask_parts may_parts ea)
open Go.Proofs.YtenhdijbcdkfbaaGreatDoor.mm (wi wo ones wo_lt)
def Ap (F:Ft) (G:Fr) (q:Nat):Prop:=∀ i,F.own i→¬ G.own q i∧G.wv.ownBlock ≠ some i
section
variable {w w1 w2:World} {h q:Nat} {c c2:Cfg} {F F':Ft} {G G':Fr} {H H2:Hm}
theorem RefAt.did (A:RefAt w1 q c2 G H2) (B:HomeAt w1 h c F H) (D:Did w1 w2 F F') (ap:Ap F G q):RefAt w2 q c2 G H2:=A.keep fun i hi hx=>D.block i hi fun e=>by
 rcases hx with hx | hx | hx
 ·exact (ap i e).1 hx
 ·exact B.not_own A.mem.blk (by decide) (by decide) (by decide) (by decide) (hx ▸ e)
 ·exact (ap i e).2 hx
theorem Ap.did (ap:Ap F G q) (A:RefAt w1 q c2 G H2) (D:Did w1 w2 F F'):Ap F' G q:=fun i hi=>
 ⟨fun e=>D.own (A.own_lt e) (fun hf=>(ap i hf).1 e) hi,fun e=>D.own (A.wt.lt i e) (fun hf=>(ap i hf).2 e) hi⟩
theorem Ap.rdid (ap:Ap F G q) (B:HomeAt w1 h c F H) (D:RDid w1 w2 q G G'):Ap F G' q:=fun i hi=>⟨fun e=>(ap i hi).1 ((D.own i).1 e),fun e=>by
 rcases D.next with h1 | h1
 ·exact (ap i hi).2 (h1 ▸ e)
 ·have:=h1 i e
  have:=B.own_lt hi
  omega⟩
theorem HomeAt.rdid (B:HomeAt w1 h c F H) (A:RefAt w1 q c2 G H2) (D:RDid w1 w2 q G G') (ap:Ap F G q):HomeAt w2 h c F H:=B.keep fun i hi hx=>D.block i hi fun e=>by
 rcases hx with hx | hx | hx | ⟨cs,fr,hx⟩
 ·exact (ap i hx).1 e
 ·exact A.not_own B.blk (by decide) (by decide) (by decide) (by decide) (hx ▸ e)
 ·exact A.not_own B.mem.blk (by decide) (by decide) (by decide) (by decide) (hx ▸ e)
 ·exact A.not_own hx (by decide) (by decide) (by decide) (by decide) e
theorem Own.rdid (O:Own w w1 h c F H) (A:RefAt w1 q c2 G H2) (D:RDid w1 w2 q G G') (ap:Ap F G q) (fr:∀ i,G.own q i→w.heap.size ≤ i):Own w w2 h c F H:=
 ⟨O.at'.rdid A D ap,⟨D.os.trans O.old.os,D.tape.trans O.old.tape,D.output.trans O.old.output,Nat.le_trans O.old.size D.size,fun k hk _=>(D.block k (Nat.lt_of_lt_of_le hk O.old.size) (fun e=>by have:=fr k e;omega)).trans (O.old.block k hk (by simp))⟩,O.fresh⟩
end
structure Both (w w1:World) (h q:Nat) (c:Cfg) (F:Ft) (G:Fr) (H:Hm):Prop where
 own:Own w w1 h c F H
 ref:RefAt w1 q c G H
 ap:Ap F G q
 fr:∀ i,G.own q i→w.heap.size ≤ i
section
variable {w w1 w2:World} {h q:Nat} {c:Cfg} {F:Ft} {G:Fr} {H:Hm}
theorem Both.grown (B:Both w w1 h q c F G H) (hg:w1.grownBy w2 none):Both w w2 h q c F G H:=⟨B.own.grown hg,B.ref.grown hg,B.ap,B.fr⟩
theorem both_take (T:Tabs w) (B:Both w w1 h q c F G H) (n:Nt) (hw:Word n):Calls Tryz.prog 13 #[.pointer (some ⟨h,0,none⟩),.agg (na n)] w1 fun e w2=>∃ F' v,e = .returned (.tuple #[v,.int .i64 (take c H n).2.2])∧Own w w2 h c F' (take c H n).1∧RefAt w2 q c G H∧Ap F' G q∧NSl w2 v (take c H n).2.1∧(∀ k,v.ownBlock=some k→¬ G.own q k)∧F'.mb=F.mb∧(∀ g o,w1.heap[g]?=some o→¬ F.own g→w2.heap[g]?=some o):=
 (own_take T B.own n hw).mono fun e w2 ⟨F',v,he,ho,hs,hd,hf⟩=>
  ⟨F',v,he,ho,B.ref.did B.own.at' hd B.ap,B.ap.did B.ref hd,hs,fun k hk e=>by have:=(hf k hk).1;have:=B.ref.own_lt e;omega,hd.mb,fun g o hg hn=>hd.heap hg hn⟩
theorem both_rtake {F':Ft} {H':Hm} {v:Value} {ns:List Nt} (O:Own w w1 h c F' H') (A:RefAt w1 q c G H) (ap:Ap F' G q) (fr:∀ i,G.own q i→w.heap.size ≤ i) (hs:NSl w1 v ns) (hv:∀ k,v.ownBlock=some k→¬ G.own q k) (n:Nt) (hw:Word n) (hl:H.wt.length ≤ 65536) (hH:H'=(take c H n).1) :
  Calls Tryz.prog 14 #[.pointer (some ⟨q,0,none⟩),.agg (na n)] w1 fun e w2=>∃ G' v2,e = .returned (.tuple #[v2,.int .i64 (take c H n).2.2])∧Both w w2 h q c F' G' H'∧NSl w2 v ns∧NSl w2 v2 (take c H n).2.1∧G'.mb=G.mb:=
 (rtake_any A n hw hl).mono fun e w2 ⟨G',v2,he,hA,hs2,hd,hf⟩=>
  ⟨G',v2,he,⟨O.rdid A hd ap fr,by rw [hH];exact hA,ap.rdid O.at' hd,fun i hi=>fr i ((hd.own i).1 hi)⟩,hd.sl hs hv,hs2,hd.mb⟩
theorem both_copy (B:Both w w1 h q c F G H):Calls Tryz.prog 12 #[.pointer (some ⟨h,0,none⟩)] w1 fun e w2=>∃ h' F',e = .returned (.pointer (some ⟨h',0,none⟩))∧Both w w2 h q c F G H∧Own w w2 h' c F' H∧(∀ i,F.own i→¬ F'.own i)∧Ap F' G q∧w1.grownBy w2 none∧(∀ i,F'.own i→w1.heap.size ≤ i):=
 (copy_any B.own.at').mono fun e w2 ⟨h',F',he,hA,hg,hh,hmb,hfr⟩=>
  ⟨h',F',he,B.grown hg,⟨hA,grown_trans B.own.old hg,fun i hi=>Nat.le_trans B.own.old.size (hfr i hi)⟩,fun i h1 h2=>by have:=hfr i h2;have:=B.own.at'.own_lt h1;omega,
   fun i hi=>⟨fun e=>by have:=hfr i hi;have:=B.ref.own_lt e;omega,fun e=>by have:=hfr i hi;have:=B.ref.wt.lt i e;omega⟩,hg,hfr⟩
theorem both_takec {h':Nat} {F':Ft} (T:Tabs w) (B:Both w w1 h q c F G H) (O:Own w w1 h' c F' H) (hd:∀ i,F.own i→¬ F'.own i) (ap:Ap F' G q) (n:Nt) (hw:Word n):Calls Tryz.prog 13 #[.pointer (some ⟨h,0,none⟩),.agg (na n)] w1 fun e w2=>∃ v x,e = .returned (.tuple #[v,x])∧Both w w2 h' q c F' G H∧(∀ g o,w1.heap[g]?=some o→¬ F.own g→w2.heap[g]?=some o):=
 (own_take T B.own n hw).mono fun e w2 ⟨F2,v,he,ho,hs,hD,hf⟩=>
  ⟨v,_,he,⟨⟨B.own.at'.apart O.at' hD hd,ho.old,O.fresh⟩,B.ref.did B.own.at' hD B.ap,ap,B.fr⟩,fun g o hg hn=>hD.heap hg hn⟩
end
end Go.Proofs.YtenhdijbcdkfbaaGreatDoor.hh
