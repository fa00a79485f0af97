/-
 What order's functions and the document's own answer: contracts. No condition but that stamps are at least 0.
-/
import Derived.Test.YtcoimipgilkmbaaGreatDoorTl
import Derived.Test.YtcoimipgilkmbaaGreatDoorRows
import Derived.WalkKit
import Derived.ProofKit
import Derived.OpenShut
import Derived.WalkLawsBesides
import Derived.Handy
import Derived.Lib.Hide
import Derived.LoopTactic
import Derived.Outline
import Derived.Deep.QuietTactic
import Derived.BigQuiet
import Derived.ScopeJumps
import Derived.WalkMore
namespace Go.Proofs.YtcoimipgilkmbaaGreatDoor.oo
set_option linter.unusedVariables false
set_option linter.unusedSimpArgs false
set_option maxRecDepth 1000000
set_option maxHeartbeats 16000000
open Go Go.ChangeShapes Go.WideShapes Go.ChangeAt Go.RowKit
def older (a b:Int):Bool:=decide (a ≠ 0) && decide (b ≠ 0) && decide (a < b)
def ref (own:Int) (meets:Bool):Bool:=decide (own ≠ 0) && meets
def flag' (own:Int) (flag meets:Bool) (s:Int):Bool:=flag || (ref own meets && older s own)
def gives (own:Int) (flag:Bool) (s:Int):Bool:=decide (own ≠ 0) && flag && older s own
theorem ret_bool {a b:Bool} (h:a=b):Ending.returned (.bool a)=Ending.returned (.bool b):=by rw [h]
theorem ret_two {a b c d:Bool} (h:a=b) (k:c=d):Ending.returned (.tuple #[.bool a,.bool c])=Ending.returned (.tuple #[.bool b,.bool d]):=by rw [h,k]
theorem older_any (a b:Int) (w:World):Calls Tryz.prog 179 #[.int .u64 a,.int .u64 b] w fun e w'=>e = .returned (.bool (older a b))∧w=w':=by
 go_enter Tryz.func179,Tryz.ntmps179
 go_wp2
 all_goals (go_ret;refine ⟨ret_bool ?_,rfl⟩;unfold older;simp_all)
theorem older_ref (a b:Int) (h0:0 ≤ a) (h1:0 ≤ b) (w:World):Calls Tryz.prog 176 #[.int .u64 a,.int .u64 b] w fun e w'=>e = .returned (.bool (older a b))∧w=w':=by
 go_enter Tryz.func176,Tryz.ntmps176
 go_wp2
 all_goals (go_ret;refine ⟨ret_bool ?_,rfl⟩;unfold older;simp_all <;> omega)
theorem asked_any (own:Int) (f m:Bool) (s:Int) (w:World):Calls Tryz.prog 169 #[.int .u64 own,.bool f,.bool m,.int .u64 s] w fun e w'=>e = .returned (.tuple #[.bool (ref own m),.bool (flag' own f m s)])∧w=w':=by
 by_cases h:own=0 <;> cases f <;> cases m
 all_goals (go_enter Tryz.func169,Tryz.ntmps169)
 all_goals (go_wp2_with (go_at_call 179;refine (older_any _ _ _).mono ?_;rintro e w' ⟨rfl,rfl⟩))
 all_goals (go_ret2;refine ⟨ret_two ?_ ?_,rfl⟩ <;> simp [ref,flag', *])
theorem asked_ref (own:Int) (f m:Bool) (s:Int) (h0:0 ≤ own) (h1:0 ≤ s) (w:World):Calls Tryz.prog 177 #[.int .u64 own,.bool f,.bool m,.int .u64 s] w fun e w'=>e = .returned (.tuple #[.bool (ref own m),.bool (flag' own f m s)])∧w=w':=by
 by_cases h:0 < own <;> cases f <;> cases m
 all_goals (go_enter Tryz.func177,Tryz.ntmps177)
 all_goals (go_wp2_with (go_at_call 176;refine (older_ref _ _ (by omega) (by omega) _).mono ?_;rintro e w' ⟨rfl,rfl⟩))
 all_goals (go_ret2;refine ⟨ret_two ?_ ?_,rfl⟩ <;> simp [ref,flag', *] <;> omega)
def Away (own:Int) (f:Bool) (s:Int) (w:World) (a':Act) (w':World):Prop:=w'=w∧gives own f s=false∧∃ x8 x9 x10 x11 x12 x13 x14 x15,a'={ tmps:=#[.int .u64 own,.bool f,.int .u64 s,undef,undef,undef,.bool false,.bool false,x8,x9,x10,x11,x12,x13,x14,x15,undef],defers:=[] }
theorem jump_ret (l:Nat) (J:Act→World→Prop) (Q:Exit→Act→World→Prop) (a:Act) (w:World):Exit.jump l J Q .ret a w=Q .ret a w:=rfl
theorem gives_any (own:Int) (f:Bool) (s:Int) (w:World):Calls Tryz.prog 167 #[.int .u64 own,.bool f,.int .u64 s] w fun e w'=>e = .returned (.bool (gives own f s))∧w=w':=by
 go_enter Tryz.func167,Tryz.ntmps167
 go_wp2
 refine wp_scope_jumps 0 (Away own f s w) (fun _ _=>0) rfl ?_ ?_
 ·by_cases h:own=0
  ·go_wp2
   go_step3
   exact ⟨rfl,rfl,by simp [gives,h],_,_,_,_,_,_,_,_,rfl⟩
  ·cases f
   ·go_wp2
    go_step3
    exact ⟨rfl,rfl,by simp [gives,h],_,_,_,_,_,_,_,_,rfl⟩
   ·cases hb:older s own
    ·go_wp2_with (go_at_call 179;refine (older_any _ _ _).mono ?_;rintro e w' ⟨rfl,rfl⟩)
     go_step3
     exact ⟨rfl,rfl,by simp [gives,h,hb],_,_,_,_,_,_,_,_,rfl⟩
    ·go_wp2_with (go_at_call 179;refine (older_any _ _ _).mono ?_;rintro e w' ⟨rfl,rfl⟩)
     go_step3
     go_wp2
     rw [jump_ret]
     go_ret
     exact ⟨ret_bool (by simp [gives,h,hb]),rfl⟩
 ·rintro a' w' ⟨rfl,hg,x8,x9,x10,x11,x12,x13,x14,x15,rfl⟩
  go_wp2
  rw [jump_ret]
  go_ret
  exact ⟨ret_bool hg.symm,rfl⟩
theorem gives_ref (own:Int) (f:Bool) (s:Int) (h0:0 ≤ own) (h1:0 ≤ s) (w:World):Calls Tryz.prog 154 #[.int .u64 own,.bool f,.int .u64 s] w fun e w'=>e = .returned (.bool (gives own f s))∧w=w':=by
 by_cases h:0 < own <;> cases f <;> cases hb:older s own
 all_goals (go_enter Tryz.func154,Tryz.ntmps154)
 all_goals (go_wp2_with (go_at_call 176;refine (older_ref _ _ (by omega) (by omega) _).mono ?_;rintro e w' ⟨rfl,rfl⟩))
 all_goals (go_ret;refine ⟨ret_bool ?_,rfl⟩;simp [gives, *] <;> omega)
end Go.Proofs.YtcoimipgilkmbaaGreatDoor.oo
