/-
  For every plan, every row of notes, with copies or without, the law HomePlays returns true: what each note makes go out, and all that is known behind it, are the document's. Condition: the tables math/bits.deBruijn32tab, undertow/note.kinds and undertow/plan.bounds are as the program's text lays them (tied).
-/
import Derived.Test.YtenhdijbcdkfbaaGreatDoorCards
import Derived.Test.YtenhdijbcdkfbaaGreatDoorTie
import Derived.Test.YtenhdijbcdkfbaaGreatDoorHkT
import Derived.Test.YtenhdijbcdkfbaaGreatDoorHzR
import Derived.Test.YtenhdijbcdkfbaaGreatDoorHzB
import Derived.SevenTiedAt
namespace Go.Proofs.YtenhdijbcdkfbaaGreatDoor.homePlays
open Go.ChangeShapes Go.WideShapes Go.ChangeAt Go.RowKit Go.Proofs.YtenhdijbcdkfbaaGreatDoor.hh
set_option linter.unusedVariables false
set_option maxRecDepth 100000 in
theorem lifted (os:Os) (started:os.Started) (H:Type) (enc:TypeId × Value→H) :
    ReturnsInHanded {} Tryz.checked os 3 .any (fun w args=>(Rows.homePlaysSpec.pre enc Tryz.prog Tryz.f3 [] false w args∧laidMetH Tryz.prog laid1 w)∧sizedMet enc Tryz.prog Tryz.f3 (OpenSpec.ofChange Rows.homePlaysSpec) false w args)
      (Rows.homePlaysSpec.post enc Tryz.prog Tryz.f3 false true false false):=by
  refine returnsInHanded_of_change_and (C:=Tryz.checked) (X:=fun w _=>laidMetH Tryz.prog laid1 w) (fun _ _ _ hh h=>h.of_heap hh) hh.own started (by kernel_rfl) Tryz.func3
    (ChangeSpec.witness_shaped (enc:=enc) (C:=Tryz.checked) (os:=os) (X:=fun w _=>laidMetH Tryz.prog laid1 w) false (World.doorLaid Tryz.prog 400 os) #[.agg (tt.Cfg.cells ⟨0,0,0,0,0,0,0,0⟩),.slice none 0 0,.bool false] 8 rfl (World.shaped_of_RefB (by kernel_rfl) (by kernel_rfl)) (by kernel_rfl) (by kernel_rfl) (by kernel_rfl) (door_met os _)) ?_
  intro W base args ds gs before hval0 hW _ _ hL _
  have hval:∀ (j:Nat) t v,Tryz.f3.params[j]?=some t→args[j]?=some v→Value.okWide Tryz.prog W .any base t v:=hval0
  have hW':=hW
  obtain ⟨p,q,hA0,hV,rfl,hfz,hnd⟩:=hW
  have hA:DataW.TrodAll enc Tryz.prog W 0 (fun _=>true) true Tryz.f3.params.toList args.toList ds p:=hA0
  rw [Tryz.params3] at hA hval
  obtain ⟨v0,vs0,d0,ds0,p0,q0,hargs,rfl,rfl,h0,r0⟩:=trodAll_cons hA
  obtain ⟨v1,vs1,d1,ds1,p1,q1,rfl,rfl,rfl,h1,r1⟩:=trodAll_cons r0
  obtain ⟨v2,vs2,d2,ds2,p2,q2,rfl,rfl,rfl,h2,r2⟩:=trodAll_cons r1
  obtain ⟨rfl,rfl,rfl⟩:=trodAll_nil r2
  obtain rfl:args=#[v0,v1,v2]:=by cases args;simp_all
  obtain ⟨rfl,rfl⟩:=trodVars_none hV
  obtain ⟨a0,rfl,rfl,rfl,w0⟩:=cfg_open (hval 0 23 v0 rfl rfl) h0
  obtain ⟨ad1,len1,cap1,rfl⟩:=okWide_slice Tryz.underlying24 (hval 1 24 v1 rfl rfl)
  obtain ⟨a2,rfl,rfl,rfl,w2⟩:=bool_open (hval 2 4 v2 rfl rfl) h2
  clear hA0 hval0
  simp only [List.append_nil] at hW'
  have hlt1:∀ x ∈ p1,x.block < W.heap.size:=fun x hx=>by simpa using hW'.lt x (by simp [hx])
  have hargs1:∀ (W':World),Below W.heap.size W W'→DataW.Trod enc Tryz.prog W' 0 (fun b=>decide (b < W.heap.size)) true 24 (.slice ad1 len1 cap1) d1 p1:=
    fun W' hn=>Below.trod laidOut (by kernel_rfl) (of_decide_eq_true (by kernel_rfl)) h1 hn (fun x hx=>hlt1 x hx)
  obtain ⟨s1,hl1,hat1⟩:=notes_at h1
  refine (plays_true a0 ad1 len1 cap1 a2 W (tabs_of_laid hL) s1 hl1 hat1.1 hat1.2).mono fun e W' ⟨he,hg0⟩=>?_
  have hg:=below_of hg0
  subst he
  exact ⟨_,rfl,⟨_,_,_,[],_,[],hW',trodAll_mk1 (shut_bool Tryz.underlying4 _),(trodAll_cons_mk (cfg_shut w0) (trodAll_cons_mk (hargs1 W' hg) (trodAll_cons_mk (bool_shut w2) trodAll_mk0))),rfl,hg.frame _,fun h=>by cases h⟩⟩
theorem over:Rows.homePlaysRow.holds Tryz.pinned (OpenSpec.ofChange Rows.homePlaysSpec):=
  OpenClaim.holds_of_wide 3 Tryz.f3 rfl rfl rfl rfl rfl rfl rfl ⟨rfl,rfl,rfl,rfl,rfl⟩ rfl rfl rfl rfl rfl (by kernel_rfl) Tryz.func3 (by kernel_rfl)
    (of_decide_eq_true (by kernel_rfl)) (by unfold Func.isWrapper;first | (rw [if_pos (by decide +kernel)];kernel_rfl) | (rw [if_neg (by decide +kernel)];exact ⟨rfl,rfl⟩))
    (fun os started H enc _=>lifted os started H enc)
theorem proved:Rows.HomePlaysCardSaid:=
  Claim7.holds_tied_plain_at .later [] [.data,.data,.wider] true Rows.homePlaysCard.stood.harness true
    over (fun _ h=>by cases h) (by kernel_rfl) (fun _ h=>by cases h) homePlays_row_tie rfl ⟨rfl,rfl⟩ (by kernel_rfl) rfl
    (fun f fn hf hfn=>by
      obtain rfl:f=3:=Option.some.inj ((show Tryz.prog.funcNamed Rows.homePlaysRow.func=some 3 by kernel_rfl).symm.trans hf) |>.symm
      obtain rfl:fn=Tryz.f3:=(Option.some.inj (Tryz.func3.symm.trans hfn)).symm
      exact ⟨by kernel_rfl,fun j t ht=>by
        rw [Tryz.params3] at ht
        have hm:t ∈ [23,24,4]:=by simpa using Array.mem_of_getElem? ht
        have hall:([23,24,4].all fun u=>!Tryz.prog.wantsStandIn u)=true:=by kernel_rfl
        exact (show Tryz.prog.wantsStandIn t=false by simpa using List.all_eq_true.1 hall t hm)⟩)
    (by kernel_rfl)
#print axioms proved
end Go.Proofs.YtenhdijbcdkfbaaGreatDoor.homePlays
