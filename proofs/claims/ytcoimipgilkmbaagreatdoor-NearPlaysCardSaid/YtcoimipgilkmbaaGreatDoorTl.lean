/-
  Steps of a walk through a region that draws its order: the operation is found by its place. No condition.
-/
import Derived.Deep.RegionHeld
import Derived.Lib.Hide
import Derived.WalkKit
import Derived.KernelRfl
namespace Go.Proofs.YtcoimipgilkmbaaGreatDoor
open Go Go.RowKit
set_option linter.unusedVariables false
theorem qh {p:Prop} (h:p):Go.RowKit.Hid p:=Lib.hid h
theorem dp {ops:Array Oper} {i:Nat} {oi:Oper} {t:List Oper} (hi:ops.toList.drop i=oi :: t):ops[i]?=some oi:=by
  have:=congrArg List.head? hi
  rw [List.head?_drop] at this
  simpa using this
theorem tl {P:Program} {md:Region.Mode} {ops:Array Oper} {Q:Exit→Act→World→Prop} {S:World→Prop} {fuel:Nat} {listed:Array Bool} {a:Act} {w:World} (i:Nat) {oi:Oper} {t:List Oper} (v:Value) (hi:ops.toList.drop i=oi :: t) (hy:∀ w,S w→(execOp a.eval oi).run P w = .ok (.value v) w)
    (hw:Region.wanted oi (yielded ops a.tmps)=true) (h:wpAnyH P md ops Q S fuel (listed.setIfInBounds i true) (a.put oi.dst v) w) (hf:Region.free md ops listed i=true:=by kernel_rfl) (hS:S w:=by assumption) (hs:Region.noSelect ops=true:=by kernel_rfl) (hr:(Region.ready md ops listed).contains i=true:=by kernel_rfl)
    (hQ:∀ c a w,Q (.panic c) (a.put oi.dst v) w→Q (.panic c) a w:=by exact fun _ _ _ h=>h):wpAnyH P md ops Q S (fuel + 1) listed a w:=wpAnyH_take (dp hi) hs hf hr hQ (Or.inl ⟨hw,hy⟩) hS h
theorem tu {P:Program} {md:Region.Mode} {ops:Array Oper} {Q:Exit→Act→World→Prop} {S:World→Prop} {fuel:Nat} {listed:Array Bool} {a:Act} {w:World} (i:Nat) {oi:Oper} {t:List Oper} (hi:ops.toList.drop i=oi :: t)
    (h:wpAnyH P md ops Q S fuel (listed.setIfInBounds i true) (a.put oi.dst undef) w) (hf:Region.free md ops listed i=true:=by kernel_rfl) (hw:Region.wanted oi (yielded ops a.tmps)=false:=by rfl) (hS:S w:=by assumption) (hs:Region.noSelect ops=true:=by kernel_rfl) (hr:(Region.ready md ops listed).contains i=true:=by kernel_rfl)
    (hQ:∀ c a w,Q (.panic c) (a.put oi.dst undef) w→Q (.panic c) a w:=by exact fun _ _ _ h=>h):wpAnyH P md ops Q S (fuel + 1) listed a w:=wpAnyH_take (dp hi) hs hf hr hQ (Or.inr ⟨hw,rfl⟩) hS h
theorem ac {P:Program} {md:Region.Mode} {ops:Array Oper} {Q:Exit→Act→World→Prop} {S:World→Prop} {fuel:Nat} {listed:Array Bool} {a:Act} {w:World} {i:Nat} {o:Oper} {t:List Oper} {rs:List Nat} (hi:ops.toList.drop i=o :: t)
    (h:∀ K':Act→World→Prop,Shut (∀ a w,S w→(S w→wpAnyH P md ops Q S fuel (listed.setIfInBounds i true) a w)→K' a w)→if Region.wanted o (yielded ops a.tmps)=true then Oper.wp P o a w K' Q else K' (a.put o.dst undef) w)
    (hs:AllReadyH P md ops Q S fuel listed a w rs):AllReadyH P md ops Q S fuel listed a w (i :: rs):=AllReadyH.cons (dp hi) h hs
theorem rd {P:Program} {md:Region.Mode} {ops:Array Oper} {Q:Exit→Act→World→Prop} {S:World→Prop} {fuel:Nat} {listed:Array Bool} {a:Act} {w:World} (i:Nat) {o:Oper} {t:List Oper} (hi:ops.toList.drop i=o :: t)
    (h:∀ K':Act→World→Prop,Shut (∀ a w,S w→(S w→wpAnyH P md ops Q S fuel (listed.setIfInBounds i true) a w)→K' a w)→if Region.wanted o (yielded ops a.tmps)=true then Oper.wp P o a w K' Q else K' (a.put o.dst undef) w)
    (hr:Region.ready md ops listed=[i]:=by kernel_rfl):wpAnyH P md ops Q S (fuel + 1) listed a w:=wpAnyH_ready hr (by simp) (ac hi h AllReadyH.nil)
theorem lay1 {α:Type} (l:List α) (i:Nat) (a:α):l.toArray.setIfInBounds i a=(l.set i a).toArray:=List.setIfInBounds_toArray ..
theorem lay:(∀ (a:Act) (v:Value),a.put none v=a)∧(∀ (a:Act) (t:Tmp) (v:Value),a.put (some t) v={ a with tmps:=a.tmps.setIfInBounds t v })∧(∀ (l:List Value) (i:Nat) (a:Value),l.toArray.setIfInBounds i a=(l.set i a).toArray)∧(∀ (l:List Bool) (i:Nat) (a:Bool),l.toArray.setIfInBounds i a=(l.set i a).toArray) ∧
    (∀ (a:Value) (l:List Value) (b:Value),(a :: l).set 0 b=b :: l)∧(∀ (a:Bool) (l:List Bool) (b:Bool),(a :: l).set 0 b=b :: l)∧(∀ (a:Value) (l:List Value) (n:Nat) (b:Value),(a :: l).set (n + 1) b=a :: l.set n b)∧(∀ (a:Bool) (l:List Bool) (n:Nat) (b:Bool),(a :: l).set (n + 1) b=a :: l.set n b):=
  ⟨fun _ _=>rfl,fun _ _ _=>rfl,lay1,lay1,fun _ _ _=>rfl,fun _ _ _=>rfl,fun _ _ _ _=>rfl,fun _ _ _ _=>rfl⟩
end Go.Proofs.YtcoimipgilkmbaaGreatDoor
