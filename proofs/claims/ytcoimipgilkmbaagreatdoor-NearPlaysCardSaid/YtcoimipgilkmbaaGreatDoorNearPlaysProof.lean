/-
  The law NearPlays returns true: whatever is called, each answer of the landed near and what it has behind it are those of the document. Condition: the tables undertow/note.kinds and undertow/plan.bounds are as the program's text lays them (tied).
-/
import Derived.Test.YtcoimipgilkmbaaGreatDoorCards
import Derived.Test.YtcoimipgilkmbaaGreatDoorTie
import Derived.Test.YtcoimipgilkmbaaGreatDoorNlT
import Derived.Test.YtcoimipgilkmbaaGreatDoorNpO
import Derived.SevenTiedAt
namespace Go.Proofs.YtcoimipgilkmbaaGreatDoor.nearPlays
open Go.ChangeShapes Go.WideShapes Go.ChangeAt Go.RowKit Go.Proofs.YtcoimipgilkmbaaGreatDoor.tt
set_option linter.unusedVariables false
set_option maxRecDepth 100000 in
theorem lifted (os:Os) (started:os.Started) (H:Type) (enc:TypeId × Value→H) :
    ReturnsInHanded {} Tryz.checked os 4 .any (fun w args=>(Rows.nearPlaysSpec.pre enc Tryz.prog Tryz.f4 [] false w args∧laidMetH Tryz.prog laid1 w)∧sizedMet enc Tryz.prog Tryz.f4 (OpenSpec.ofChange Rows.nearPlaysSpec) false w args)
      (Rows.nearPlaysSpec.post enc Tryz.prog Tryz.f4 false true false false):=by
  refine returnsInHanded_of_change_and (C:=Tryz.checked) (X:=fun w _=>laidMetH Tryz.prog laid1 w) (fun _ _ _ hh h=>h.of_heap hh) tt.own started (by kernel_rfl) Tryz.func4
    (ChangeSpec.witness_shaped (enc:=enc) (C:=Tryz.checked) (os:=os) (X:=fun w _=>laidMetH Tryz.prog laid1 w) false (World.doorLaid Tryz.prog 400 os) #[.agg (tt.Cfg.cells ⟨0,0,0,0,0,0,0,0⟩),.int .i64 0,.slice none 0 0] 8 rfl (World.shaped_of_RefB (by kernel_rfl) (by kernel_rfl)) (by kernel_rfl) (by kernel_rfl) (by kernel_rfl) (door_met os _)) ?_
  intro W base args ds gs before hval0 hW _ _ hL _
  have hval:∀ (j:Nat) t v,Tryz.f4.params[j]?=some t→args[j]?=some v→Value.okWide Tryz.prog W .any base t v:=hval0
  have hW':=hW
  obtain ⟨p,q,hA0,hV,rfl,hfz,hnd⟩:=hW
  have hA:DataW.TrodAll enc Tryz.prog W 0 (fun _=>true) true Tryz.f4.params.toList args.toList ds p:=hA0
  rw [Tryz.params4] at hA hval
  obtain ⟨v0,vs0,d0,ds0,p0,q0,hargs,rfl,rfl,h0,r0⟩:=trodAll_cons hA
  obtain ⟨v1,vs1,d1,ds1,p1,q1,rfl,rfl,rfl,h1,r1⟩:=trodAll_cons r0
  obtain ⟨v2,vs2,d2,ds2,p2,q2,rfl,rfl,rfl,h2,r2⟩:=trodAll_cons r1
  obtain ⟨rfl,rfl,rfl⟩:=trodAll_nil r2
  obtain rfl:args=#[v0,v1,v2]:=by cases args;simp_all
  obtain ⟨rfl,rfl⟩:=trodVars_none hV
  obtain ⟨a0,rfl,rfl,rfl,w0⟩:=cfg_open (hval 0 27 v0 rfl rfl) h0
  obtain ⟨a1,rfl,rfl,rfl,w1⟩:=open_int Tryz.underlying3 (hval 1 3 v1 rfl rfl) h1
  obtain ⟨ad2,len2,cap2,rfl⟩:=okWide_slice Tryz.underlying60 (hval 2 60 v2 rfl rfl)
  have b1:=bounds_i64 w1
  clear hA0 hval0
  simp only [List.append_nil] at hW'
  have hlt2:∀ x ∈ p2,x.block < W.heap.size:=fun x hx=>by simpa using hW'.lt x (by simp [hx])
  have hargs2:∀ (W':World),Below W.heap.size W W'→DataW.Trod enc Tryz.prog W' 0 (fun b=>decide (b < W.heap.size)) true 60 (.slice ad2 len2 cap2) d2 p2:=
    fun W' hn=>Below.trod laidOut (by kernel_rfl) (of_decide_eq_true (by kernel_rfl)) h2 hn (fun x hx=>hlt2 x hx)
  obtain ⟨s2,hl2,hat2⟩:=ops_at h2
  refine (py.plays_true a0 a1 ad2 len2 cap2 W (py.tabs_of_laid hL) s2 hl2 hat2).mono fun e W' ⟨he,hg0⟩=>?_
  have hg:=below_of hg0
  subst he
  exact ⟨_,rfl,⟨_,_,_,[],_,[],hW',trodAll_mk1 (shut_bool Tryz.underlying4 _),(trodAll_cons_mk (cfg_shut w0) (trodAll_cons_mk (shut_int Tryz.underlying3 w1) (trodAll_cons_mk (hargs2 W' hg) trodAll_mk0))),rfl,hg.frame _,fun h=>by cases h⟩⟩
theorem over:Rows.nearPlaysRow.holds Tryz.pinned (OpenSpec.ofChange Rows.nearPlaysSpec):=
  OpenClaim.holds_of_wide 4 Tryz.f4 rfl rfl rfl rfl rfl rfl rfl ⟨rfl,rfl,rfl,rfl,rfl⟩ rfl rfl rfl rfl rfl (by kernel_rfl) Tryz.func4 (by kernel_rfl)
    (of_decide_eq_true (by kernel_rfl)) (by unfold Func.isWrapper;first | (rw [if_pos (by decide +kernel)];kernel_rfl) | (rw [if_neg (by decide +kernel)];exact ⟨rfl,rfl⟩))
    (fun os started H enc _=>lifted os started H enc)
theorem proved:Rows.NearPlaysCardSaid:=
  Claim7.holds_tied_plain_at .later [] [.data,.wider] true Rows.nearPlaysCard.stood.harness true
    over (fun _ h=>by cases h) (by kernel_rfl) (fun _ h=>by cases h) nearPlays_row_tie rfl ⟨rfl,rfl⟩ (by kernel_rfl) rfl
    (fun f fn hf hfn=>by
      obtain rfl:f=4:=Option.some.inj ((show Tryz.prog.funcNamed Rows.nearPlaysRow.func=some 4 by kernel_rfl).symm.trans hf) |>.symm
      obtain rfl:fn=Tryz.f4:=(Option.some.inj (Tryz.func4.symm.trans hfn)).symm
      exact ⟨by kernel_rfl,fun j t ht=>by
        rw [Tryz.params4] at ht
        have hm:t ∈ [27,3,60]:=by simpa using Array.mem_of_getElem? ht
        have hall:([27,3,60].all fun u=>!Tryz.prog.wantsStandIn u)=true:=by kernel_rfl
        exact (show Tryz.prog.wantsStandIn t=false by simpa using List.all_eq_true.1 hall t hm)⟩)
    (by kernel_rfl)
#print axioms proved
end Go.Proofs.YtcoimipgilkmbaaGreatDoor.nearPlays
