/-
  What Take of a home makes, as plain facts: for the laws of layer 11. No condition.
-/
import Derived.Test.YtenhdijbcdkfbaaGreatDoorTl
import Derived.Test.YtenhdijbcdkfbaaGreatDoorHo
namespace Go.Proofs.YtenhdijbcdkfbaaGreatDoor.hh
set_option linter.unusedVariables false
set_option linter.unusedSimpArgs false
set_option maxRecDepth 1000000
set_option maxHeartbeats 16000000
open Go
open Go.Proofs.YtenhdijbcdkfbaaGreatDoor.tt (Nt Cfg fits net bare zd usd uses coreOf ok_ends tH sT rule_ok)
open Go.Proofs.YtenhdijbcdkfbaaGreatDoor.en (En gets back asked asks free ask_parts may_parts)
open Go.Proofs.YtenhdijbcdkfbaaGreatDoor.mm (wi wo ones wo_lt)
theorem take_err {c:Cfg} {H:Hm} {n:Nt} (h:ready c H n ≠ 0):take c H n=(H,[],ready c H n):=by unfold take;rw [if_pos h]
theorem take_ways {c:Cfg} {H:Hm} (h:Inv c H) (n:Nt) (hr:ready c H n=0) :
    (Asks c n∧(jbOf H n.b.toNat).isSome=true∧(H.wt.length:Int) < roomH c∧take c H n=({ H with wt:=H.wt ++ [n] },[],0)) ∨
    (Asks c n∧jbOf H n.b.toNat=none∧take c H n=((begin1 H n).1,(begin1 H n).2,0)) ∨
    (n.k=11∧(∃ j,jbOf H n.b.toNat=some j∧j.d=true∧j.a.f=n.f)∧take c H n=((fin H n.b.toNat).1,(fin H n.b.toNat).2,0)) ∨
    ((n.k=9 ∨ n.k=10)∧∃ j,jbOf H n.b.toNat=some j∧j.d=false∧j.w.testBit n.f.toNat=true ∧
      ((noted j n).w ≠ 0∧take c H n=({ H with mm:=if n.h then H.mm.set n.b.toNat n.d else H.mm,jb:=H.jb.set n.b.toNat (some (noted j n)) },[],0) ∨
       (noted j n).w=0∧(noted j n).r=true∧take c H n=((fin { H with mm:=if n.h then H.mm.set n.b.toNat n.d else H.mm,jb:=H.jb.set n.b.toNat (some (noted j n)) } n.b.toNat).1,
          bare 7 (-1) j.a.f n.b (noted j n).l 0 false false :: (fin { H with mm:=if n.h then H.mm.set n.b.toNat n.d else H.mm,jb:=H.jb.set n.b.toNat (some (noted j n)) } n.b.toNat).2,0) ∨
       (noted j n).w=0∧(noted j n).r=false∧take c H n=((answer { H with mm:=if n.h then H.mm.set n.b.toNat n.d else H.mm,jb:=H.jb.set n.b.toNat (some (noted j n)) } n.b.toNat).1,
          (answer { H with mm:=if n.h then H.mm.set n.b.toNat n.d else H.mm,jb:=H.jb.set n.b.toNat (some (noted j n)) } n.b.toNat).2,0))):=by
  obtain ⟨hf,ht⟩:=ready_fits hr
  have hr':=hr
  unfold ready at hr'
  rw [if_neg (show ¬ (¬ fits c n ∨ n.t ≠ -1) from fun e=>e.elim (fun e=>e hf) (fun e=>e ht))] at hr'
  unfold take
  rw [if_neg (fun e=>e hr)]
  by_cases hn:tt.net n.k=0
  · rw [if_pos hn] at hr'
    rw [if_pos hn]
    have ha:Asks c n:=⟨hf,ht,hn⟩
    by_cases hj:(jbOf H n.b.toNat).isSome=true
    · rw [if_pos hj]
      refine .inl ⟨ha,hj,?_,rfl⟩
      by_cases hl:roomH c ≤ (H.wt.length:Int)
      · rw [if_pos ⟨hj,hl⟩] at hr';cases hr'
      · omega
    · rw [if_neg hj]
      refine .inr (.inl ⟨ha,?_,rfl⟩)
      cases hb:jbOf H n.b.toNat with
      | none=>rfl
      | some j=>rw [hb] at hj;exact absurd rfl hj
  · rw [if_neg hn] at hr'
    rw [if_neg hn]
    have hk9:n.k=9 ∨ n.k=10 ∨ n.k=11:=by
      have h1:=hf.1.1
      have hr2:=(rule_ok n hf.1.1 hf.1.2.1).1 hf.1
      have ha:=hr2.at_
      have hc:=hr2.core
      by_cases hT:tH n.k=true
      · unfold tH at hT
        have hT':=of_decide_eq_true hT
        have:¬ (n.k ≤ 3):=fun e=>hn (by unfold tt.net;rw [if_pos h1,if_pos e])
        omega
      · rw [if_neg hT] at hc
        omega
    cases hj:jbOf H n.b.toNat with
    | none=>rw [hj] at hr';cases hr'
    | some j=>
      rw [hj] at hr'
      dsimp only at hr'
      by_cases hk:n.k=11
      · rw [if_pos hk]
        rw [if_pos hk] at hr'
        refine .inr (.inr (.inl ⟨hk,⟨j,rfl,?_⟩,rfl⟩))
        by_cases hd:j.d=true∧j.a.f=n.f
        · exact hd
        · rw [if_neg hd] at hr';cases hr'
      · rw [if_neg hk]
        rw [if_neg hk] at hr'
        have hd:j.d=false∧j.w.testBit n.f.toNat=true:=by
          by_cases hd:j.d=false∧j.w.testBit n.f.toNat=true
          · exact hd
          · rw [if_neg hd] at hr';cases hr'
        refine .inr (.inr (.inr ⟨by omega,j,rfl,hd.1,hd.2,?_⟩))
        dsimp only
        by_cases hw:(noted j n).w ≠ 0
        · rw [if_pos hw];exact .inl ⟨hw,rfl⟩
        · rw [if_neg hw]
          have hw0:(noted j n).w=0:=Classical.not_not.1 hw
          by_cases hrr:(noted j n).r=true
          · rw [if_pos hrr];exact .inr (.inl ⟨hw0,hrr,rfl⟩)
          · rw [if_neg hrr];exact .inr (.inr ⟨hw0,by simpa using hrr,rfl⟩)
section
variable {c:Cfg} {H:Hm} (h:Inv c H) (n:Nt)
include h
end
def Row (H H':Hm) (b:Nat) (ns:List Nt):Prop:=∀ i,H'.mm[i]?=H.mm[i]? ∨ (i=b∧∃ m ∈ ns,m.h=true∧H'.mm[i]?=some m.d)
theorem Row.refl (H:Hm) (b:Nat) (ns:List Nt):Row H H b ns:=fun i=> .inl rfl
theorem row_set (H:Hm) (p:Bool) (b:Nat) (n:Nt) (ns:List Nt) (hn:n ∈ ns) (hb:b < H.mm.length) (hp:p=true→n.h=true) (H':Hm) (e:H'.mm=if p then H.mm.set b n.d else H.mm):Row H H' b ns:=fun i=>by
  rw [e]
  cases p
  · exact .inl rfl
  · show (H.mm.set b n.d)[i]?=_ ∨ _
    by_cases hi:i=b
    · subst hi
      refine .inr ⟨rfl,n,hn,hp rfl,?_⟩
      show (H.mm.set i n.d)[i]?=some n.d
      rw [List.getElem?_set_self hb]
    · rw [List.getElem?_set_ne (fun e=>hi e.symm)];exact .inl rfl
theorem Row.trans {H1 H2 H3:Hm} {b:Nat} {ns:List Nt} (h:Row H1 H2 b ns) (k:Row H2 H3 b ns):Row H1 H3 b ns:=fun i=>by
  rcases k i with e | e
  · rw [e];exact h i
  · exact .inr e
theorem Row.mono {H1 H2:Hm} {b:Nat} {ns ms:List Nt} (h:Row H1 H2 b ns) (hs:∀ n ∈ ns,n ∈ ms):Row H1 H2 b ms:=fun i=>(h i).imp id fun ⟨e,m,hm,r⟩=>⟨e,m,hs m hm,r⟩
end Go.Proofs.YtenhdijbcdkfbaaGreatDoor.hh
