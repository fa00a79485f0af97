/-
 What the document's May answers: contract. No condition. (Made by a script.)
-/
import Derived.Test.YtcoimipgilkmbaaGreatDoorTl
import Derived.Test.YtcoimipgilkmbaaGreatDoorNax
namespace Go.Proofs.YtcoimipgilkmbaaGreatDoor.tt
set_option linter.unusedVariables false
set_option linter.unusedSimpArgs false
set_option maxRecDepth 1000000
set_option maxHeartbeats 16000000
open Go Go.ChangeShapes Go.WideShapes Go.ChangeAt Go.RowKit
theorem eql29 (x:List Int) (hx:x.length=16) (w:World):(binOp .eql 35 (.agg (row x)) (.agg #[.int .u32 0,.int .u32 0,.int .u32 0,.int .u32 0,.int .u32 0,.int .u32 0,.int .u32 0,.int .u32 0,.int .u32 0,.int .u32 0,.int .u32 0,.int .u32 0,.int .u32 0,.int .u32 0,.int .u32 0,.int .u32 0])).run Tryz.prog w = .ok (.bool (decide (x=zd))) w:=by
 have h:row zd=#[.int .u32 0,.int .u32 0,.int .u32 0,.int .u32 0,.int .u32 0,.int .u32 0,.int .u32 0,.int .u32 0,.int .u32 0,.int .u32 0,.int .u32 0,.int .u32 0,.int .u32 0,.int .u32 0,.int .u32 0,.int .u32 0]:=rfl
 rw [← h,run_eql_struct,eq29k 10000 (by omega) w x zd hx rfl]
 show Result.ok (Value.bool (x == zd)) w=_
 have:(x == zd)=decide (x=zd):=by by_cases h:x=zd <;> simp [h]
 rw [this]
theorem rmay_kind (n:Nt) (w:World) (h:¬ (1 ≤ n.k∧n.k ≤ 11)):Calls Tryz.prog 152 #[.agg (na n)] w fun e w'=>e = .returned (.bool false)∧w.grownBy w' none:=by
 have c0:=box w n 0 _ rfl
 have hg:=qh (grown_alloc (grown_refl w none) (.cells (na n) 37))
 by_cases h0:n.k < 1
 ·clear h
  go_enter Tryz.func152,Tryz.ntmps152
  go_wp2
  go_ret
  exact ⟨rfl,hg.out⟩
 ·have h1:11 < n.k:=by omega
  clear h
  go_enter Tryz.func152,Tryz.ntmps152
  go_wp2
  go_ret
  exact ⟨rfl,hg.out⟩
theorem rmay_block (n:Nt) (w:World) (hk:1 ≤ n.k∧n.k ≤ 11) (h:¬ (0 ≤ n.b∧n.b < 256)):Calls Tryz.prog 152 #[.agg (na n)] w fun e w'=>e = .returned (.bool false)∧w.grownBy w' none:=by
 have c0:=box w n 0 _ rfl
 have c3:=box w n 3 _ rfl
 have hg:=qh (grown_alloc (grown_refl w none) (.cells (na n) 37))
 obtain ⟨k1,k2⟩:=hk
 by_cases h0:n.b < 0
 ·clear h
  go_enter Tryz.func152,Tryz.ntmps152
  go_wp2
  go_ret
  exact ⟨rfl,hg.out⟩
 ·have h1:255 < n.b:=by omega
  clear h
  go_enter Tryz.func152,Tryz.ntmps152
  go_wp2
  go_ret
  exact ⟨rfl,hg.out⟩
noncomputable instance (n:Nt) (T S:Bool):Decidable (n.Rule T S):=Classical.propDecidable _
theorem rmay_TS_at (n:Nt) (w:World) (k1:1 ≤ n.k) (k2:n.k ≤ 11) (b1:0 ≤ n.b) (b2:n.b ≤ 255) (hT:tH n.k=true) (hS:sT n.k=true) (k3:¬ n.k=3) (k6:¬ n.k=6) (k9:¬ n.k=9) (hx:¬ n.t=-1):Calls Tryz.prog 152 #[.agg (na n)] w fun e w'=>e = .returned (.bool false)∧w.grownBy w' none:=by
 have HT:=qh (toHome_any n.k ⟨k1,k2⟩)
 have HS:=qh (stamped_any n.k ⟨k1,k2⟩)
 rw [hT] at HT
 rw [hS] at HS
 have c0:=box w n 0 _ rfl
 have c1:=box w n 1 _ rfl
 have c2:=box w n 2 _ rfl
 have c3:=box w n 3 _ rfl
 have c4:=box w n 4 _ rfl
 have c5:=box w n 5 _ rfl
 have c6:=box w n 6 _ rfl
 have c7:=box w n 7 _ rfl
 have hg:=qh (grown_alloc (grown_refl w none) (.cells (na n) 37))
 clear hT hS
 have k3b:(n.k == 3)=false:=by simpa using k3
 have k3c:(n.k != 3)=true:=by simpa using k3
 have k6b:(n.k == 6)=false:=by simpa using k6
 have k6c:(n.k != 6)=true:=by simpa using k6
 have k9b:(n.k == 9)=false:=by simpa using k9
 have k9c:(n.k != 9)=true:=by simpa using k9
 go_enter Tryz.func152,Tryz.ntmps152
 go_wp2_with (first
  | (go_at_call 174;((with_reducible refine (HT.out _).mono ?_);rintro e w1 ⟨rfl,rfl⟩))
  | (go_at_call 175;((with_reducible refine (HS.out _).mono ?_);rintro e w1 ⟨rfl,rfl⟩)))
 go_ret
 exact ⟨rfl,hg.out⟩
theorem rmay_TS_c0 (n:Nt) (w:World) (k1:1 ≤ n.k) (k2:n.k ≤ 11) (b1:0 ≤ n.b) (b2:n.b ≤ 255) (hT:tH n.k=true) (hS:sT n.k=true) (k3:¬ n.k=3) (k6:¬ n.k=6) (k9:¬ n.k=9) (g0:n.t=-1) (hx:n.f < 0):Calls Tryz.prog 152 #[.agg (na n)] w fun e w'=>e = .returned (.bool false)∧w.grownBy w' none:=by
 have HT:=qh (toHome_any n.k ⟨k1,k2⟩)
 have HS:=qh (stamped_any n.k ⟨k1,k2⟩)
 rw [hT] at HT
 rw [hS] at HS
 have c0:=box w n 0 _ rfl
 have c1:=box w n 1 _ rfl
 have c2:=box w n 2 _ rfl
 have c3:=box w n 3 _ rfl
 have c4:=box w n 4 _ rfl
 have c5:=box w n 5 _ rfl
 have c6:=box w n 6 _ rfl
 have c7:=box w n 7 _ rfl
 have hg:=qh (grown_alloc (grown_refl w none) (.cells (na n) 37))
 clear hT hS
 have k3b:(n.k == 3)=false:=by simpa using k3
 have k3c:(n.k != 3)=true:=by simpa using k3
 have k6b:(n.k == 6)=false:=by simpa using k6
 have k6c:(n.k != 6)=true:=by simpa using k6
 have k9b:(n.k == 9)=false:=by simpa using k9
 have k9c:(n.k != 9)=true:=by simpa using k9
 go_enter Tryz.func152,Tryz.ntmps152
 go_wp2_with (first
  | (go_at_call 174;((with_reducible refine (HT.out _).mono ?_);rintro e w1 ⟨rfl,rfl⟩))
  | (go_at_call 175;((with_reducible refine (HS.out _).mono ?_);rintro e w1 ⟨rfl,rfl⟩)))
 go_ret
 exact ⟨rfl,hg.out⟩
theorem rmay_TS_c1 (n:Nt) (w:World) (k1:1 ≤ n.k) (k2:n.k ≤ 11) (b1:0 ≤ n.b) (b2:n.b ≤ 255) (hT:tH n.k=true) (hS:sT n.k=true) (k3:¬ n.k=3) (k6:¬ n.k=6) (k9:¬ n.k=9) (g0:n.t=-1) (g1:0 ≤ n.f) (hx:15 < n.f):Calls Tryz.prog 152 #[.agg (na n)] w fun e w'=>e = .returned (.bool false)∧w.grownBy w' none:=by
 have HT:=qh (toHome_any n.k ⟨k1,k2⟩)
 have HS:=qh (stamped_any n.k ⟨k1,k2⟩)
 rw [hT] at HT
 rw [hS] at HS
 have c0:=box w n 0 _ rfl
 have c1:=box w n 1 _ rfl
 have c2:=box w n 2 _ rfl
 have c3:=box w n 3 _ rfl
 have c4:=box w n 4 _ rfl
 have c5:=box w n 5 _ rfl
 have c6:=box w n 6 _ rfl
 have c7:=box w n 7 _ rfl
 have hg:=qh (grown_alloc (grown_refl w none) (.cells (na n) 37))
 clear hT hS
 have k3b:(n.k == 3)=false:=by simpa using k3
 have k3c:(n.k != 3)=true:=by simpa using k3
 have k6b:(n.k == 6)=false:=by simpa using k6
 have k6c:(n.k != 6)=true:=by simpa using k6
 have k9b:(n.k == 9)=false:=by simpa using k9
 have k9c:(n.k != 9)=true:=by simpa using k9
 go_enter Tryz.func152,Tryz.ntmps152
 go_wp2_with (first
  | (go_at_call 174;((with_reducible refine (HT.out _).mono ?_);rintro e w1 ⟨rfl,rfl⟩))
  | (go_at_call 175;((with_reducible refine (HS.out _).mono ?_);rintro e w1 ⟨rfl,rfl⟩)))
 go_ret
 exact ⟨rfl,hg.out⟩
theorem rmay_TS_s (n:Nt) (w:World) (k1:1 ≤ n.k) (k2:n.k ≤ 11) (b1:0 ≤ n.b) (b2:n.b ≤ 255) (hT:tH n.k=true) (hS:sT n.k=true) (k3:¬ n.k=3) (k6:¬ n.k=6) (k9:¬ n.k=9) (g0:n.t=-1) (g1:0 ≤ n.f) (g2:n.f ≤ 15) (hx:¬ n.s=0):Calls Tryz.prog 152 #[.agg (na n)] w fun e w'=>e = .returned (.bool false)∧w.grownBy w' none:=by
 have HT:=qh (toHome_any n.k ⟨k1,k2⟩)
 have HS:=qh (stamped_any n.k ⟨k1,k2⟩)
 rw [hT] at HT
 rw [hS] at HS
 have c0:=box w n 0 _ rfl
 have c1:=box w n 1 _ rfl
 have c2:=box w n 2 _ rfl
 have c3:=box w n 3 _ rfl
 have c4:=box w n 4 _ rfl
 have c5:=box w n 5 _ rfl
 have c6:=box w n 6 _ rfl
 have c7:=box w n 7 _ rfl
 have hg:=qh (grown_alloc (grown_refl w none) (.cells (na n) 37))
 clear hT hS
 have k3b:(n.k == 3)=false:=by simpa using k3
 have k3c:(n.k != 3)=true:=by simpa using k3
 have k6b:(n.k == 6)=false:=by simpa using k6
 have k6c:(n.k != 6)=true:=by simpa using k6
 have k9b:(n.k == 9)=false:=by simpa using k9
 have k9c:(n.k != 9)=true:=by simpa using k9
 have hxb:(n.s == 0)=false:=by simpa using hx
 have hxc:(n.s != 0)=true:=by simpa using hx
 go_enter Tryz.func152,Tryz.ntmps152
 go_wp2_with (first
  | (go_at_call 174;((with_reducible refine (HT.out _).mono ?_);rintro e w1 ⟨rfl,rfl⟩))
  | (go_at_call 175;((with_reducible refine (HS.out _).mono ?_);rintro e w1 ⟨rfl,rfl⟩)))
 go_ret
 exact ⟨rfl,hg.out⟩
theorem rmay_TS_q (n:Nt) (w:World) (k1:1 ≤ n.k) (k2:n.k ≤ 11) (b1:0 ≤ n.b) (b2:n.b ≤ 255) (hT:tH n.k=true) (hS:sT n.k=true) (k3:¬ n.k=3) (k6:¬ n.k=6) (k9:¬ n.k=9) (g0:n.t=-1) (g1:0 ≤ n.f) (g2:n.f ≤ 15) (g3:n.s=0) (hx:n.q=true):Calls Tryz.prog 152 #[.agg (na n)] w fun e w'=>e = .returned (.bool false)∧w.grownBy w' none:=by
 have HT:=qh (toHome_any n.k ⟨k1,k2⟩)
 have HS:=qh (stamped_any n.k ⟨k1,k2⟩)
 rw [hT] at HT
 rw [hS] at HS
 have c0:=box w n 0 _ rfl
 have c1:=box w n 1 _ rfl
 have c2:=box w n 2 _ rfl
 have c3:=box w n 3 _ rfl
 have c4:=box w n 4 _ rfl
 have c5:=box w n 5 _ rfl
 have c6:=box w n 6 _ rfl
 have c7:=box w n 7 _ rfl
 have hg:=qh (grown_alloc (grown_refl w none) (.cells (na n) 37))
 clear hT hS
 have k3b:(n.k == 3)=false:=by simpa using k3
 have k3c:(n.k != 3)=true:=by simpa using k3
 have k6b:(n.k == 6)=false:=by simpa using k6
 have k6c:(n.k != 6)=true:=by simpa using k6
 have k9b:(n.k == 9)=false:=by simpa using k9
 have k9c:(n.k != 9)=true:=by simpa using k9
 rw [hx] at c7
 go_enter Tryz.func152,Tryz.ntmps152
 go_wp2_with (first
  | (go_at_call 174;((with_reducible refine (HT.out _).mono ?_);rintro e w1 ⟨rfl,rfl⟩))
  | (go_at_call 175;((with_reducible refine (HS.out _).mono ?_);rintro e w1 ⟨rfl,rfl⟩)))
 go_ret
 exact ⟨rfl,hg.out⟩
theorem rmay_TS_h (n:Nt) (w:World) (k1:1 ≤ n.k) (k2:n.k ≤ 11) (b1:0 ≤ n.b) (b2:n.b ≤ 255) (hT:tH n.k=true) (hS:sT n.k=true) (k3:¬ n.k=3) (k6:¬ n.k=6) (k9:¬ n.k=9) (g0:n.t=-1) (g1:0 ≤ n.f) (g2:n.f ≤ 15) (g3:n.s=0) (g4:n.q=false) (hx:n.h=true):Calls Tryz.prog 152 #[.agg (na n)] w fun e w'=>e = .returned (.bool false)∧w.grownBy w' none:=by
 have HT:=qh (toHome_any n.k ⟨k1,k2⟩)
 have HS:=qh (stamped_any n.k ⟨k1,k2⟩)
 rw [hT] at HT
 rw [hS] at HS
 have c0:=box w n 0 _ rfl
 have c1:=box w n 1 _ rfl
 have c2:=box w n 2 _ rfl
 have c3:=box w n 3 _ rfl
 have c4:=box w n 4 _ rfl
 have c5:=box w n 5 _ rfl
 have c6:=box w n 6 _ rfl
 have c7:=box w n 7 _ rfl
 have hg:=qh (grown_alloc (grown_refl w none) (.cells (na n) 37))
 clear hT hS
 have k3b:(n.k == 3)=false:=by simpa using k3
 have k3c:(n.k != 3)=true:=by simpa using k3
 have k6b:(n.k == 6)=false:=by simpa using k6
 have k6c:(n.k != 6)=true:=by simpa using k6
 have k9b:(n.k == 9)=false:=by simpa using k9
 have k9c:(n.k != 9)=true:=by simpa using k9
 rw [g4] at c7
 rw [hx] at c6
 go_enter Tryz.func152,Tryz.ntmps152
 go_wp2_with (first
  | (go_at_call 174;((with_reducible refine (HT.out _).mono ?_);rintro e w1 ⟨rfl,rfl⟩))
  | (go_at_call 175;((with_reducible refine (HS.out _).mono ?_);rintro e w1 ⟨rfl,rfl⟩)))
 go_ret
 exact ⟨rfl,hg.out⟩
theorem rmay_TS_dat (n:Nt) (w:World) (k1:1 ≤ n.k) (k2:n.k ≤ 11) (b1:0 ≤ n.b) (b2:n.b ≤ 255) (hT:tH n.k=true) (hS:sT n.k=true) (k3:¬ n.k=3) (k6:¬ n.k=6) (k9:¬ n.k=9) (g0:n.t=-1) (g1:0 ≤ n.f) (g2:n.f ≤ 15) (g3:n.s=0) (g4:n.q=false) (g5:n.h=false):Calls Tryz.prog 152 #[.agg (na n)] w fun e w'=>e = .returned (.bool (decide (n.d=zd)))∧w.grownBy w' none:=by
 have HT:=qh (toHome_any n.k ⟨k1,k2⟩)
 have HS:=qh (stamped_any n.k ⟨k1,k2⟩)
 rw [hT] at HT
 rw [hS] at HS
 have c0:=box w n 0 _ rfl
 have c1:=box w n 1 _ rfl
 have c2:=box w n 2 _ rfl
 have c3:=box w n 3 _ rfl
 have c4:=box w n 4 _ rfl
 have c5:=box w n 5 _ rfl
 have c6:=box w n 6 _ rfl
 have c7:=box w n 7 _ rfl
 have hg:=qh (grown_alloc (grown_refl w none) (.cells (na n) 37))
 clear hT hS
 have k3b:(n.k == 3)=false:=by simpa using k3
 have k3c:(n.k != 3)=true:=by simpa using k3
 have k6b:(n.k == 6)=false:=by simpa using k6
 have k6c:(n.k != 6)=true:=by simpa using k6
 have k9b:(n.k == 9)=false:=by simpa using k9
 have k9c:(n.k != 9)=true:=by simpa using k9
 rw [g4] at c7
 rw [g5] at c6
 obtain ⟨t,m,HTT,hagg,hsize,hld,hsz,hst⟩:=named29
 have hl1:=hld _ _ n.d n.hd _ (range_d (range_of (heap_alloc_new w (.cells (na n) 37))))
 have hq:=eql29 n.d n.hd
 clear hld hst hsz
 go_enter Tryz.func152,Tryz.ntmps152
 rw [HTT.out.1]
 go_wp2_with (first
  | (go_at_call 174;((with_reducible refine (HT.out _).mono ?_);rintro e w1 ⟨rfl,rfl⟩))
  | (go_at_call 175;((with_reducible refine (HS.out _).mono ?_);rintro e w1 ⟨rfl,rfl⟩)))
 go_ret
 exact ⟨rfl,hg.out⟩
theorem rmay_TS (n:Nt) (w:World) (k1:1 ≤ n.k) (k2:n.k ≤ 11) (b1:0 ≤ n.b) (b2:n.b ≤ 255) (hT:tH n.k=true) (hS:sT n.k=true) (k3:¬ n.k=3) (k6:¬ n.k=6) (k9:¬ n.k=9):Calls Tryz.prog 152 #[.agg (na n)] w fun e w'=>e = .returned (.bool (decide (n.Rule true true)))∧w.grownBy w' none:=by
 by_cases x0:¬ n.t=-1
 ·rw [decide_eq_false (fun h=>?_)]
  ·exact rmay_TS_at n w k1 k2 b1 b2 hT hS k3 k6 k9 x0
  ·have:=h.at_;simp at this;exact x0 this
 have g0:n.t=-1:=by omega
 by_cases x1:n.f < 0
 ·rw [decide_eq_false (fun h=>?_)]
  ·exact rmay_TS_c0 n w k1 k2 b1 b2 hT hS k3 k6 k9 g0 x1
  ·have:=h.core.1;simp at this;omega
 have g1:0 ≤ n.f:=by omega
 by_cases x2:15 < n.f
 ·rw [decide_eq_false (fun h=>?_)]
  ·exact rmay_TS_c1 n w k1 k2 b1 b2 hT hS k3 k6 k9 g0 g1 x2
  ·have:=h.core.2;simp at this;omega
 have g2:n.f ≤ 15:=by omega
 by_cases x3:¬ n.s=0
 ·rw [decide_eq_false (fun h=>?_)]
  ·exact rmay_TS_s n w k1 k2 b1 b2 hT hS k3 k6 k9 g0 g1 g2 x3
  ·exact x3 (h.s0 (by omega))
 have g3:n.s=0:=by omega
 by_cases x4:n.q=true
 ·rw [decide_eq_false (fun h=>?_)]
  ·exact rmay_TS_q n w k1 k2 b1 b2 hT hS k3 k6 k9 g0 g1 g2 g3 x4
  ·have:=h.q (by omega);rw [x4] at this;cases this
 have g4:n.q=false:=by simpa using x4
 by_cases x5:n.h=true
 ·rw [decide_eq_false (fun h=>?_)]
  ·exact rmay_TS_h n w k1 k2 b1 b2 hT hS k3 k6 k9 g0 g1 g2 g3 g4 x5
  ·have:=h.h369 x5;omega
 have g5:n.h=false:=by simpa using x5
 have:decide (n.Rule true true)=decide (n.d=zd):=by
  by_cases hd:n.d=zd
  ·rw [decide_eq_true hd,decide_eq_true (⟨by simpa using g0,by simp;omega,fun h=>(by cases h),fun h=>by omega,fun _=>g3,fun _=>g4,fun h=>by omega,fun h=>(by rw [g5] at h;cases h),fun _=>hd⟩)]
  ·rw [decide_eq_false hd,decide_eq_false (fun h=>hd (h.d g5))]
 rw [this]
 exact rmay_TS_dat n w k1 k2 b1 b2 hT hS k3 k6 k9 g0 g1 g2 g3 g4 g5
theorem rmay_Ts_at (n:Nt) (w:World) (k1:1 ≤ n.k) (k2:n.k ≤ 11) (b1:0 ≤ n.b) (b2:n.b ≤ 255) (hT:tH n.k=true) (hS:sT n.k=false) (k3:¬ n.k=3) (k6:¬ n.k=6) (k9:¬ n.k=9) (hx:¬ n.t=-1):Calls Tryz.prog 152 #[.agg (na n)] w fun e w'=>e = .returned (.bool false)∧w.grownBy w' none:=by
 have HT:=qh (toHome_any n.k ⟨k1,k2⟩)
 have HS:=qh (stamped_any n.k ⟨k1,k2⟩)
 rw [hT] at HT
 rw [hS] at HS
 have c0:=box w n 0 _ rfl
 have c1:=box w n 1 _ rfl
 have c2:=box w n 2 _ rfl
 have c3:=box w n 3 _ rfl
 have c4:=box w n 4 _ rfl
 have c5:=box w n 5 _ rfl
 have c6:=box w n 6 _ rfl
 have c7:=box w n 7 _ rfl
 have hg:=qh (grown_alloc (grown_refl w none) (.cells (na n) 37))
 clear hT hS
 have k3b:(n.k == 3)=false:=by simpa using k3
 have k3c:(n.k != 3)=true:=by simpa using k3
 have k6b:(n.k == 6)=false:=by simpa using k6
 have k6c:(n.k != 6)=true:=by simpa using k6
 have k9b:(n.k == 9)=false:=by simpa using k9
 have k9c:(n.k != 9)=true:=by simpa using k9
 go_enter Tryz.func152,Tryz.ntmps152
 go_wp2_with (first
  | (go_at_call 174;((with_reducible refine (HT.out _).mono ?_);rintro e w1 ⟨rfl,rfl⟩))
  | (go_at_call 175;((with_reducible refine (HS.out _).mono ?_);rintro e w1 ⟨rfl,rfl⟩)))
 go_ret
 exact ⟨rfl,hg.out⟩
theorem rmay_Ts_c0 (n:Nt) (w:World) (k1:1 ≤ n.k) (k2:n.k ≤ 11) (b1:0 ≤ n.b) (b2:n.b ≤ 255) (hT:tH n.k=true) (hS:sT n.k=false) (k3:¬ n.k=3) (k6:¬ n.k=6) (k9:¬ n.k=9) (g0:n.t=-1) (hx:n.f < 0):Calls Tryz.prog 152 #[.agg (na n)] w fun e w'=>e = .returned (.bool false)∧w.grownBy w' none:=by
 have HT:=qh (toHome_any n.k ⟨k1,k2⟩)
 have HS:=qh (stamped_any n.k ⟨k1,k2⟩)
 rw [hT] at HT
 rw [hS] at HS
 have c0:=box w n 0 _ rfl
 have c1:=box w n 1 _ rfl
 have c2:=box w n 2 _ rfl
 have c3:=box w n 3 _ rfl
 have c4:=box w n 4 _ rfl
 have c5:=box w n 5 _ rfl
 have c6:=box w n 6 _ rfl
 have c7:=box w n 7 _ rfl
 have hg:=qh (grown_alloc (grown_refl w none) (.cells (na n) 37))
 clear hT hS
 have k3b:(n.k == 3)=false:=by simpa using k3
 have k3c:(n.k != 3)=true:=by simpa using k3
 have k6b:(n.k == 6)=false:=by simpa using k6
 have k6c:(n.k != 6)=true:=by simpa using k6
 have k9b:(n.k == 9)=false:=by simpa using k9
 have k9c:(n.k != 9)=true:=by simpa using k9
 go_enter Tryz.func152,Tryz.ntmps152
 go_wp2_with (first
  | (go_at_call 174;((with_reducible refine (HT.out _).mono ?_);rintro e w1 ⟨rfl,rfl⟩))
  | (go_at_call 175;((with_reducible refine (HS.out _).mono ?_);rintro e w1 ⟨rfl,rfl⟩)))
 go_ret
 exact ⟨rfl,hg.out⟩
theorem rmay_Ts_c1 (n:Nt) (w:World) (k1:1 ≤ n.k) (k2:n.k ≤ 11) (b1:0 ≤ n.b) (b2:n.b ≤ 255) (hT:tH n.k=true) (hS:sT n.k=false) (k3:¬ n.k=3) (k6:¬ n.k=6) (k9:¬ n.k=9) (g0:n.t=-1) (g1:0 ≤ n.f) (hx:15 < n.f):Calls Tryz.prog 152 #[.agg (na n)] w fun e w'=>e = .returned (.bool false)∧w.grownBy w' none:=by
 have HT:=qh (toHome_any n.k ⟨k1,k2⟩)
 have HS:=qh (stamped_any n.k ⟨k1,k2⟩)
 rw [hT] at HT
 rw [hS] at HS
 have c0:=box w n 0 _ rfl
 have c1:=box w n 1 _ rfl
 have c2:=box w n 2 _ rfl
 have c3:=box w n 3 _ rfl
 have c4:=box w n 4 _ rfl
 have c5:=box w n 5 _ rfl
 have c6:=box w n 6 _ rfl
 have c7:=box w n 7 _ rfl
 have hg:=qh (grown_alloc (grown_refl w none) (.cells (na n) 37))
 clear hT hS
 have k3b:(n.k == 3)=false:=by simpa using k3
 have k3c:(n.k != 3)=true:=by simpa using k3
 have k6b:(n.k == 6)=false:=by simpa using k6
 have k6c:(n.k != 6)=true:=by simpa using k6
 have k9b:(n.k == 9)=false:=by simpa using k9
 have k9c:(n.k != 9)=true:=by simpa using k9
 go_enter Tryz.func152,Tryz.ntmps152
 go_wp2_with (first
  | (go_at_call 174;((with_reducible refine (HT.out _).mono ?_);rintro e w1 ⟨rfl,rfl⟩))
  | (go_at_call 175;((with_reducible refine (HS.out _).mono ?_);rintro e w1 ⟨rfl,rfl⟩)))
 go_ret
 exact ⟨rfl,hg.out⟩
theorem rmay_Ts_st (n:Nt) (w:World) (k1:1 ≤ n.k) (k2:n.k ≤ 11) (b1:0 ≤ n.b) (b2:n.b ≤ 255) (hT:tH n.k=true) (hS:sT n.k=false) (k3:¬ n.k=3) (k6:¬ n.k=6) (k9:¬ n.k=9) (g0:n.t=-1) (g1:0 ≤ n.f) (g2:n.f ≤ 15) (hx:¬ n.st=0):Calls Tryz.prog 152 #[.agg (na n)] w fun e w'=>e = .returned (.bool false)∧w.grownBy w' none:=by
 have HT:=qh (toHome_any n.k ⟨k1,k2⟩)
 have HS:=qh (stamped_any n.k ⟨k1,k2⟩)
 rw [hT] at HT
 rw [hS] at HS
 have c0:=box w n 0 _ rfl
 have c1:=box w n 1 _ rfl
 have c2:=box w n 2 _ rfl
 have c3:=box w n 3 _ rfl
 have c4:=box w n 4 _ rfl
 have c5:=box w n 5 _ rfl
 have c6:=box w n 6 _ rfl
 have c7:=box w n 7 _ rfl
 have hg:=qh (grown_alloc (grown_refl w none) (.cells (na n) 37))
 clear hT hS
 have k3b:(n.k == 3)=false:=by simpa using k3
 have k3c:(n.k != 3)=true:=by simpa using k3
 have k6b:(n.k == 6)=false:=by simpa using k6
 have k6c:(n.k != 6)=true:=by simpa using k6
 have k9b:(n.k == 9)=false:=by simpa using k9
 have k9c:(n.k != 9)=true:=by simpa using k9
 have hxb:(n.st == 0)=false:=by simpa using hx
 have hxc:(n.st != 0)=true:=by simpa using hx
 go_enter Tryz.func152,Tryz.ntmps152
 go_wp2_with (first
  | (go_at_call 174;((with_reducible refine (HT.out _).mono ?_);rintro e w1 ⟨rfl,rfl⟩))
  | (go_at_call 175;((with_reducible refine (HS.out _).mono ?_);rintro e w1 ⟨rfl,rfl⟩)))
 go_ret
 exact ⟨rfl,hg.out⟩
theorem rmay_Ts_s (n:Nt) (w:World) (k1:1 ≤ n.k) (k2:n.k ≤ 11) (b1:0 ≤ n.b) (b2:n.b ≤ 255) (hT:tH n.k=true) (hS:sT n.k=false) (k3:¬ n.k=3) (k6:¬ n.k=6) (k9:¬ n.k=9) (g0:n.t=-1) (g1:0 ≤ n.f) (g2:n.f ≤ 15) (g3:n.st=0) (hx:¬ n.s=0):Calls Tryz.prog 152 #[.agg (na n)] w fun e w'=>e = .returned (.bool false)∧w.grownBy w' none:=by
 have HT:=qh (toHome_any n.k ⟨k1,k2⟩)
 have HS:=qh (stamped_any n.k ⟨k1,k2⟩)
 rw [hT] at HT
 rw [hS] at HS
 have c0:=box w n 0 _ rfl
 have c1:=box w n 1 _ rfl
 have c2:=box w n 2 _ rfl
 have c3:=box w n 3 _ rfl
 have c4:=box w n 4 _ rfl
 have c5:=box w n 5 _ rfl
 have c6:=box w n 6 _ rfl
 have c7:=box w n 7 _ rfl
 have hg:=qh (grown_alloc (grown_refl w none) (.cells (na n) 37))
 clear hT hS
 have k3b:(n.k == 3)=false:=by simpa using k3
 have k3c:(n.k != 3)=true:=by simpa using k3
 have k6b:(n.k == 6)=false:=by simpa using k6
 have k6c:(n.k != 6)=true:=by simpa using k6
 have k9b:(n.k == 9)=false:=by simpa using k9
 have k9c:(n.k != 9)=true:=by simpa using k9
 have hxb:(n.s == 0)=false:=by simpa using hx
 have hxc:(n.s != 0)=true:=by simpa using hx
 go_enter Tryz.func152,Tryz.ntmps152
 go_wp2_with (first
  | (go_at_call 174;((with_reducible refine (HT.out _).mono ?_);rintro e w1 ⟨rfl,rfl⟩))
  | (go_at_call 175;((with_reducible refine (HS.out _).mono ?_);rintro e w1 ⟨rfl,rfl⟩)))
 go_ret
 exact ⟨rfl,hg.out⟩
theorem rmay_Ts_q (n:Nt) (w:World) (k1:1 ≤ n.k) (k2:n.k ≤ 11) (b1:0 ≤ n.b) (b2:n.b ≤ 255) (hT:tH n.k=true) (hS:sT n.k=false) (k3:¬ n.k=3) (k6:¬ n.k=6) (k9:¬ n.k=9) (g0:n.t=-1) (g1:0 ≤ n.f) (g2:n.f ≤ 15) (g3:n.st=0) (g4:n.s=0) (hx:n.q=true):Calls Tryz.prog 152 #[.agg (na n)] w fun e w'=>e = .returned (.bool false)∧w.grownBy w' none:=by
 have HT:=qh (toHome_any n.k ⟨k1,k2⟩)
 have HS:=qh (stamped_any n.k ⟨k1,k2⟩)
 rw [hT] at HT
 rw [hS] at HS
 have c0:=box w n 0 _ rfl
 have c1:=box w n 1 _ rfl
 have c2:=box w n 2 _ rfl
 have c3:=box w n 3 _ rfl
 have c4:=box w n 4 _ rfl
 have c5:=box w n 5 _ rfl
 have c6:=box w n 6 _ rfl
 have c7:=box w n 7 _ rfl
 have hg:=qh (grown_alloc (grown_refl w none) (.cells (na n) 37))
 clear hT hS
 have k3b:(n.k == 3)=false:=by simpa using k3
 have k3c:(n.k != 3)=true:=by simpa using k3
 have k6b:(n.k == 6)=false:=by simpa using k6
 have k6c:(n.k != 6)=true:=by simpa using k6
 have k9b:(n.k == 9)=false:=by simpa using k9
 have k9c:(n.k != 9)=true:=by simpa using k9
 rw [hx] at c7
 go_enter Tryz.func152,Tryz.ntmps152
 go_wp2_with (first
  | (go_at_call 174;((with_reducible refine (HT.out _).mono ?_);rintro e w1 ⟨rfl,rfl⟩))
  | (go_at_call 175;((with_reducible refine (HS.out _).mono ?_);rintro e w1 ⟨rfl,rfl⟩)))
 go_ret
 exact ⟨rfl,hg.out⟩
theorem rmay_Ts_h (n:Nt) (w:World) (k1:1 ≤ n.k) (k2:n.k ≤ 11) (b1:0 ≤ n.b) (b2:n.b ≤ 255) (hT:tH n.k=true) (hS:sT n.k=false) (k3:¬ n.k=3) (k6:¬ n.k=6) (k9:¬ n.k=9) (g0:n.t=-1) (g1:0 ≤ n.f) (g2:n.f ≤ 15) (g3:n.st=0) (g4:n.s=0) (g5:n.q=false) (hx:n.h=true):Calls Tryz.prog 152 #[.agg (na n)] w fun e w'=>e = .returned (.bool false)∧w.grownBy w' none:=by
 have HT:=qh (toHome_any n.k ⟨k1,k2⟩)
 have HS:=qh (stamped_any n.k ⟨k1,k2⟩)
 rw [hT] at HT
 rw [hS] at HS
 have c0:=box w n 0 _ rfl
 have c1:=box w n 1 _ rfl
 have c2:=box w n 2 _ rfl
 have c3:=box w n 3 _ rfl
 have c4:=box w n 4 _ rfl
 have c5:=box w n 5 _ rfl
 have c6:=box w n 6 _ rfl
 have c7:=box w n 7 _ rfl
 have hg:=qh (grown_alloc (grown_refl w none) (.cells (na n) 37))
 clear hT hS
 have k3b:(n.k == 3)=false:=by simpa using k3
 have k3c:(n.k != 3)=true:=by simpa using k3
 have k6b:(n.k == 6)=false:=by simpa using k6
 have k6c:(n.k != 6)=true:=by simpa using k6
 have k9b:(n.k == 9)=false:=by simpa using k9
 have k9c:(n.k != 9)=true:=by simpa using k9
 rw [g5] at c7
 rw [hx] at c6
 go_enter Tryz.func152,Tryz.ntmps152
 go_wp2_with (first
  | (go_at_call 174;((with_reducible refine (HT.out _).mono ?_);rintro e w1 ⟨rfl,rfl⟩))
  | (go_at_call 175;((with_reducible refine (HS.out _).mono ?_);rintro e w1 ⟨rfl,rfl⟩)))
 go_ret
 exact ⟨rfl,hg.out⟩
theorem rmay_Ts_dat (n:Nt) (w:World) (k1:1 ≤ n.k) (k2:n.k ≤ 11) (b1:0 ≤ n.b) (b2:n.b ≤ 255) (hT:tH n.k=true) (hS:sT n.k=false) (k3:¬ n.k=3) (k6:¬ n.k=6) (k9:¬ n.k=9) (g0:n.t=-1) (g1:0 ≤ n.f) (g2:n.f ≤ 15) (g3:n.st=0) (g4:n.s=0) (g5:n.q=false) (g6:n.h=false):Calls Tryz.prog 152 #[.agg (na n)] w fun e w'=>e = .returned (.bool (decide (n.d=zd)))∧w.grownBy w' none:=by
 have HT:=qh (toHome_any n.k ⟨k1,k2⟩)
 have HS:=qh (stamped_any n.k ⟨k1,k2⟩)
 rw [hT] at HT
 rw [hS] at HS
 have c0:=box w n 0 _ rfl
 have c1:=box w n 1 _ rfl
 have c2:=box w n 2 _ rfl
 have c3:=box w n 3 _ rfl
 have c4:=box w n 4 _ rfl
 have c5:=box w n 5 _ rfl
 have c6:=box w n 6 _ rfl
 have c7:=box w n 7 _ rfl
 have hg:=qh (grown_alloc (grown_refl w none) (.cells (na n) 37))
 clear hT hS
 have k3b:(n.k == 3)=false:=by simpa using k3
 have k3c:(n.k != 3)=true:=by simpa using k3
 have k6b:(n.k == 6)=false:=by simpa using k6
 have k6c:(n.k != 6)=true:=by simpa using k6
 have k9b:(n.k == 9)=false:=by simpa using k9
 have k9c:(n.k != 9)=true:=by simpa using k9
 rw [g5] at c7
 rw [g6] at c6
 obtain ⟨t,m,HTT,hagg,hsize,hld,hsz,hst⟩:=named29
 have hl1:=hld _ _ n.d n.hd _ (range_d (range_of (heap_alloc_new w (.cells (na n) 37))))
 have hq:=eql29 n.d n.hd
 clear hld hst hsz
 go_enter Tryz.func152,Tryz.ntmps152
 rw [HTT.out.1]
 go_wp2_with (first
  | (go_at_call 174;((with_reducible refine (HT.out _).mono ?_);rintro e w1 ⟨rfl,rfl⟩))
  | (go_at_call 175;((with_reducible refine (HS.out _).mono ?_);rintro e w1 ⟨rfl,rfl⟩)))
 go_ret
 exact ⟨rfl,hg.out⟩
theorem rmay_Ts (n:Nt) (w:World) (k1:1 ≤ n.k) (k2:n.k ≤ 11) (b1:0 ≤ n.b) (b2:n.b ≤ 255) (hT:tH n.k=true) (hS:sT n.k=false) (k3:¬ n.k=3) (k6:¬ n.k=6) (k9:¬ n.k=9):Calls Tryz.prog 152 #[.agg (na n)] w fun e w'=>e = .returned (.bool (decide (n.Rule true false)))∧w.grownBy w' none:=by
 by_cases x0:¬ n.t=-1
 ·rw [decide_eq_false (fun h=>?_)]
  ·exact rmay_Ts_at n w k1 k2 b1 b2 hT hS k3 k6 k9 x0
  ·have:=h.at_;simp at this;exact x0 this
 have g0:n.t=-1:=by omega
 by_cases x1:n.f < 0
 ·rw [decide_eq_false (fun h=>?_)]
  ·exact rmay_Ts_c0 n w k1 k2 b1 b2 hT hS k3 k6 k9 g0 x1
  ·have:=h.core.1;simp at this;omega
 have g1:0 ≤ n.f:=by omega
 by_cases x2:15 < n.f
 ·rw [decide_eq_false (fun h=>?_)]
  ·exact rmay_Ts_c1 n w k1 k2 b1 b2 hT hS k3 k6 k9 g0 g1 x2
  ·have:=h.core.2;simp at this;omega
 have g2:n.f ≤ 15:=by omega
 by_cases x3:¬ n.st=0
 ·rw [decide_eq_false (fun h=>?_)]
  ·exact rmay_Ts_st n w k1 k2 b1 b2 hT hS k3 k6 k9 g0 g1 g2 x3
  ·exact x3 (h.st rfl)
 have g3:n.st=0:=by omega
 by_cases x4:¬ n.s=0
 ·rw [decide_eq_false (fun h=>?_)]
  ·exact rmay_Ts_s n w k1 k2 b1 b2 hT hS k3 k6 k9 g0 g1 g2 g3 x4
  ·exact x4 (h.s0 (by omega))
 have g4:n.s=0:=by omega
 by_cases x5:n.q=true
 ·rw [decide_eq_false (fun h=>?_)]
  ·exact rmay_Ts_q n w k1 k2 b1 b2 hT hS k3 k6 k9 g0 g1 g2 g3 g4 x5
  ·have:=h.q (by omega);rw [x5] at this;cases this
 have g5:n.q=false:=by simpa using x5
 by_cases x6:n.h=true
 ·rw [decide_eq_false (fun h=>?_)]
  ·exact rmay_Ts_h n w k1 k2 b1 b2 hT hS k3 k6 k9 g0 g1 g2 g3 g4 g5 x6
  ·have:=h.h369 x6;omega
 have g6:n.h=false:=by simpa using x6
 have:decide (n.Rule true false)=decide (n.d=zd):=by
  by_cases hd:n.d=zd
  ·rw [decide_eq_true hd,decide_eq_true (⟨by simpa using g0,by simp;omega,fun _=>g3,fun h=>by omega,fun _=>g4,fun _=>g5,fun h=>by omega,fun h=>(by rw [g6] at h;cases h),fun _=>hd⟩)]
  ·rw [decide_eq_false hd,decide_eq_false (fun h=>hd (h.d g6))]
 rw [this]
 exact rmay_Ts_dat n w k1 k2 b1 b2 hT hS k3 k6 k9 g0 g1 g2 g3 g4 g5 g6
theorem rmay_tS_at (n:Nt) (w:World) (k1:1 ≤ n.k) (k2:n.k ≤ 11) (b1:0 ≤ n.b) (b2:n.b ≤ 255) (hT:tH n.k=false) (hS:sT n.k=true) (k3:¬ n.k=3) (k6:¬ n.k=6) (k9:¬ n.k=9) (hx:¬ n.f=-1):Calls Tryz.prog 152 #[.agg (na n)] w fun e w'=>e = .returned (.bool false)∧w.grownBy w' none:=by
 have HT:=qh (toHome_any n.k ⟨k1,k2⟩)
 have HS:=qh (stamped_any n.k ⟨k1,k2⟩)
 rw [hT] at HT
 rw [hS] at HS
 have c0:=box w n 0 _ rfl
 have c1:=box w n 1 _ rfl
 have c2:=box w n 2 _ rfl
 have c3:=box w n 3 _ rfl
 have c4:=box w n 4 _ rfl
 have c5:=box w n 5 _ rfl
 have c6:=box w n 6 _ rfl
 have c7:=box w n 7 _ rfl
 have hg:=qh (grown_alloc (grown_refl w none) (.cells (na n) 37))
 clear hT hS
 have k3b:(n.k == 3)=false:=by simpa using k3
 have k3c:(n.k != 3)=true:=by simpa using k3
 have k6b:(n.k == 6)=false:=by simpa using k6
 have k6c:(n.k != 6)=true:=by simpa using k6
 have k9b:(n.k == 9)=false:=by simpa using k9
 have k9c:(n.k != 9)=true:=by simpa using k9
 go_enter Tryz.func152,Tryz.ntmps152
 go_wp2_with (first
  | (go_at_call 174;((with_reducible refine (HT.out _).mono ?_);rintro e w1 ⟨rfl,rfl⟩))
  | (go_at_call 175;((with_reducible refine (HS.out _).mono ?_);rintro e w1 ⟨rfl,rfl⟩)))
 go_ret
 exact ⟨rfl,hg.out⟩
theorem rmay_tS_c0 (n:Nt) (w:World) (k1:1 ≤ n.k) (k2:n.k ≤ 11) (b1:0 ≤ n.b) (b2:n.b ≤ 255) (hT:tH n.k=false) (hS:sT n.k=true) (k3:¬ n.k=3) (k6:¬ n.k=6) (k9:¬ n.k=9) (g0:n.f=-1) (hx:n.t < 0):Calls Tryz.prog 152 #[.agg (na n)] w fun e w'=>e = .returned (.bool false)∧w.grownBy w' none:=by
 have HT:=qh (toHome_any n.k ⟨k1,k2⟩)
 have HS:=qh (stamped_any n.k ⟨k1,k2⟩)
 rw [hT] at HT
 rw [hS] at HS
 have c0:=box w n 0 _ rfl
 have c1:=box w n 1 _ rfl
 have c2:=box w n 2 _ rfl
 have c3:=box w n 3 _ rfl
 have c4:=box w n 4 _ rfl
 have c5:=box w n 5 _ rfl
 have c6:=box w n 6 _ rfl
 have c7:=box w n 7 _ rfl
 have hg:=qh (grown_alloc (grown_refl w none) (.cells (na n) 37))
 clear hT hS
 have k3b:(n.k == 3)=false:=by simpa using k3
 have k3c:(n.k != 3)=true:=by simpa using k3
 have k6b:(n.k == 6)=false:=by simpa using k6
 have k6c:(n.k != 6)=true:=by simpa using k6
 have k9b:(n.k == 9)=false:=by simpa using k9
 have k9c:(n.k != 9)=true:=by simpa using k9
 go_enter Tryz.func152,Tryz.ntmps152
 go_wp2_with (first
  | (go_at_call 174;((with_reducible refine (HT.out _).mono ?_);rintro e w1 ⟨rfl,rfl⟩))
  | (go_at_call 175;((with_reducible refine (HS.out _).mono ?_);rintro e w1 ⟨rfl,rfl⟩)))
 go_ret
 exact ⟨rfl,hg.out⟩
theorem rmay_tS_c1 (n:Nt) (w:World) (k1:1 ≤ n.k) (k2:n.k ≤ 11) (b1:0 ≤ n.b) (b2:n.b ≤ 255) (hT:tH n.k=false) (hS:sT n.k=true) (k3:¬ n.k=3) (k6:¬ n.k=6) (k9:¬ n.k=9) (g0:n.f=-1) (g1:0 ≤ n.t) (hx:15 < n.t):Calls Tryz.prog 152 #[.agg (na n)] w fun e w'=>e = .returned (.bool false)∧w.grownBy w' none:=by
 have HT:=qh (toHome_any n.k ⟨k1,k2⟩)
 have HS:=qh (stamped_any n.k ⟨k1,k2⟩)
 rw [hT] at HT
 rw [hS] at HS
 have c0:=box w n 0 _ rfl
 have c1:=box w n 1 _ rfl
 have c2:=box w n 2 _ rfl
 have c3:=box w n 3 _ rfl
 have c4:=box w n 4 _ rfl
 have c5:=box w n 5 _ rfl
 have c6:=box w n 6 _ rfl
 have c7:=box w n 7 _ rfl
 have hg:=qh (grown_alloc (grown_refl w none) (.cells (na n) 37))
 clear hT hS
 have k3b:(n.k == 3)=false:=by simpa using k3
 have k3c:(n.k != 3)=true:=by simpa using k3
 have k6b:(n.k == 6)=false:=by simpa using k6
 have k6c:(n.k != 6)=true:=by simpa using k6
 have k9b:(n.k == 9)=false:=by simpa using k9
 have k9c:(n.k != 9)=true:=by simpa using k9
 go_enter Tryz.func152,Tryz.ntmps152
 go_wp2_with (first
  | (go_at_call 174;((with_reducible refine (HT.out _).mono ?_);rintro e w1 ⟨rfl,rfl⟩))
  | (go_at_call 175;((with_reducible refine (HS.out _).mono ?_);rintro e w1 ⟨rfl,rfl⟩)))
 go_ret
 exact ⟨rfl,hg.out⟩
theorem rmay_tS_s (n:Nt) (w:World) (k1:1 ≤ n.k) (k2:n.k ≤ 11) (b1:0 ≤ n.b) (b2:n.b ≤ 255) (hT:tH n.k=false) (hS:sT n.k=true) (k3:¬ n.k=3) (k6:¬ n.k=6) (k9:¬ n.k=9) (g0:n.f=-1) (g1:0 ≤ n.t) (g2:n.t ≤ 15) (hx:¬ n.s=0):Calls Tryz.prog 152 #[.agg (na n)] w fun e w'=>e = .returned (.bool false)∧w.grownBy w' none:=by
 have HT:=qh (toHome_any n.k ⟨k1,k2⟩)
 have HS:=qh (stamped_any n.k ⟨k1,k2⟩)
 rw [hT] at HT
 rw [hS] at HS
 have c0:=box w n 0 _ rfl
 have c1:=box w n 1 _ rfl
 have c2:=box w n 2 _ rfl
 have c3:=box w n 3 _ rfl
 have c4:=box w n 4 _ rfl
 have c5:=box w n 5 _ rfl
 have c6:=box w n 6 _ rfl
 have c7:=box w n 7 _ rfl
 have hg:=qh (grown_alloc (grown_refl w none) (.cells (na n) 37))
 clear hT hS
 have k3b:(n.k == 3)=false:=by simpa using k3
 have k3c:(n.k != 3)=true:=by simpa using k3
 have k6b:(n.k == 6)=false:=by simpa using k6
 have k6c:(n.k != 6)=true:=by simpa using k6
 have k9b:(n.k == 9)=false:=by simpa using k9
 have k9c:(n.k != 9)=true:=by simpa using k9
 have hxb:(n.s == 0)=false:=by simpa using hx
 have hxc:(n.s != 0)=true:=by simpa using hx
 go_enter Tryz.func152,Tryz.ntmps152
 go_wp2_with (first
  | (go_at_call 174;((with_reducible refine (HT.out _).mono ?_);rintro e w1 ⟨rfl,rfl⟩))
  | (go_at_call 175;((with_reducible refine (HS.out _).mono ?_);rintro e w1 ⟨rfl,rfl⟩)))
 go_ret
 exact ⟨rfl,hg.out⟩
theorem rmay_tS_q (n:Nt) (w:World) (k1:1 ≤ n.k) (k2:n.k ≤ 11) (b1:0 ≤ n.b) (b2:n.b ≤ 255) (hT:tH n.k=false) (hS:sT n.k=true) (k3:¬ n.k=3) (k6:¬ n.k=6) (k9:¬ n.k=9) (g0:n.f=-1) (g1:0 ≤ n.t) (g2:n.t ≤ 15) (g3:n.s=0) (hx:n.q=true):Calls Tryz.prog 152 #[.agg (na n)] w fun e w'=>e = .returned (.bool false)∧w.grownBy w' none:=by
 have HT:=qh (toHome_any n.k ⟨k1,k2⟩)
 have HS:=qh (stamped_any n.k ⟨k1,k2⟩)
 rw [hT] at HT
 rw [hS] at HS
 have c0:=box w n 0 _ rfl
 have c1:=box w n 1 _ rfl
 have c2:=box w n 2 _ rfl
 have c3:=box w n 3 _ rfl
 have c4:=box w n 4 _ rfl
 have c5:=box w n 5 _ rfl
 have c6:=box w n 6 _ rfl
 have c7:=box w n 7 _ rfl
 have hg:=qh (grown_alloc (grown_refl w none) (.cells (na n) 37))
 clear hT hS
 have k3b:(n.k == 3)=false:=by simpa using k3
 have k3c:(n.k != 3)=true:=by simpa using k3
 have k6b:(n.k == 6)=false:=by simpa using k6
 have k6c:(n.k != 6)=true:=by simpa using k6
 have k9b:(n.k == 9)=false:=by simpa using k9
 have k9c:(n.k != 9)=true:=by simpa using k9
 rw [hx] at c7
 go_enter Tryz.func152,Tryz.ntmps152
 go_wp2_with (first
  | (go_at_call 174;((with_reducible refine (HT.out _).mono ?_);rintro e w1 ⟨rfl,rfl⟩))
  | (go_at_call 175;((with_reducible refine (HS.out _).mono ?_);rintro e w1 ⟨rfl,rfl⟩)))
 go_ret
 exact ⟨rfl,hg.out⟩
theorem rmay_tS_h (n:Nt) (w:World) (k1:1 ≤ n.k) (k2:n.k ≤ 11) (b1:0 ≤ n.b) (b2:n.b ≤ 255) (hT:tH n.k=false) (hS:sT n.k=true) (k3:¬ n.k=3) (k6:¬ n.k=6) (k9:¬ n.k=9) (g0:n.f=-1) (g1:0 ≤ n.t) (g2:n.t ≤ 15) (g3:n.s=0) (g4:n.q=false) (hx:n.h=true):Calls Tryz.prog 152 #[.agg (na n)] w fun e w'=>e = .returned (.bool false)∧w.grownBy w' none:=by
 have HT:=qh (toHome_any n.k ⟨k1,k2⟩)
 have HS:=qh (stamped_any n.k ⟨k1,k2⟩)
 rw [hT] at HT
 rw [hS] at HS
 have c0:=box w n 0 _ rfl
 have c1:=box w n 1 _ rfl
 have c2:=box w n 2 _ rfl
 have c3:=box w n 3 _ rfl
 have c4:=box w n 4 _ rfl
 have c5:=box w n 5 _ rfl
 have c6:=box w n 6 _ rfl
 have c7:=box w n 7 _ rfl
 have hg:=qh (grown_alloc (grown_refl w none) (.cells (na n) 37))
 clear hT hS
 have k3b:(n.k == 3)=false:=by simpa using k3
 have k3c:(n.k != 3)=true:=by simpa using k3
 have k6b:(n.k == 6)=false:=by simpa using k6
 have k6c:(n.k != 6)=true:=by simpa using k6
 have k9b:(n.k == 9)=false:=by simpa using k9
 have k9c:(n.k != 9)=true:=by simpa using k9
 rw [g4] at c7
 rw [hx] at c6
 go_enter Tryz.func152,Tryz.ntmps152
 go_wp2_with (first
  | (go_at_call 174;((with_reducible refine (HT.out _).mono ?_);rintro e w1 ⟨rfl,rfl⟩))
  | (go_at_call 175;((with_reducible refine (HS.out _).mono ?_);rintro e w1 ⟨rfl,rfl⟩)))
 go_ret
 exact ⟨rfl,hg.out⟩
theorem rmay_tS_dat (n:Nt) (w:World) (k1:1 ≤ n.k) (k2:n.k ≤ 11) (b1:0 ≤ n.b) (b2:n.b ≤ 255) (hT:tH n.k=false) (hS:sT n.k=true) (k3:¬ n.k=3) (k6:¬ n.k=6) (k9:¬ n.k=9) (g0:n.f=-1) (g1:0 ≤ n.t) (g2:n.t ≤ 15) (g3:n.s=0) (g4:n.q=false) (g5:n.h=false):Calls Tryz.prog 152 #[.agg (na n)] w fun e w'=>e = .returned (.bool (decide (n.d=zd)))∧w.grownBy w' none:=by
 have HT:=qh (toHome_any n.k ⟨k1,k2⟩)
 have HS:=qh (stamped_any n.k ⟨k1,k2⟩)
 rw [hT] at HT
 rw [hS] at HS
 have c0:=box w n 0 _ rfl
 have c1:=box w n 1 _ rfl
 have c2:=box w n 2 _ rfl
 have c3:=box w n 3 _ rfl
 have c4:=box w n 4 _ rfl
 have c5:=box w n 5 _ rfl
 have c6:=box w n 6 _ rfl
 have c7:=box w n 7 _ rfl
 have hg:=qh (grown_alloc (grown_refl w none) (.cells (na n) 37))
 clear hT hS
 have k3b:(n.k == 3)=false:=by simpa using k3
 have k3c:(n.k != 3)=true:=by simpa using k3
 have k6b:(n.k == 6)=false:=by simpa using k6
 have k6c:(n.k != 6)=true:=by simpa using k6
 have k9b:(n.k == 9)=false:=by simpa using k9
 have k9c:(n.k != 9)=true:=by simpa using k9
 rw [g4] at c7
 rw [g5] at c6
 obtain ⟨t,m,HTT,hagg,hsize,hld,hsz,hst⟩:=named29
 have hl1:=hld _ _ n.d n.hd _ (range_d (range_of (heap_alloc_new w (.cells (na n) 37))))
 have hq:=eql29 n.d n.hd
 clear hld hst hsz
 go_enter Tryz.func152,Tryz.ntmps152
 rw [HTT.out.1]
 go_wp2_with (first
  | (go_at_call 174;((with_reducible refine (HT.out _).mono ?_);rintro e w1 ⟨rfl,rfl⟩))
  | (go_at_call 175;((with_reducible refine (HS.out _).mono ?_);rintro e w1 ⟨rfl,rfl⟩)))
 go_ret
 exact ⟨rfl,hg.out⟩
theorem rmay_tS (n:Nt) (w:World) (k1:1 ≤ n.k) (k2:n.k ≤ 11) (b1:0 ≤ n.b) (b2:n.b ≤ 255) (hT:tH n.k=false) (hS:sT n.k=true) (k3:¬ n.k=3) (k6:¬ n.k=6) (k9:¬ n.k=9):Calls Tryz.prog 152 #[.agg (na n)] w fun e w'=>e = .returned (.bool (decide (n.Rule false true)))∧w.grownBy w' none:=by
 by_cases x0:¬ n.f=-1
 ·rw [decide_eq_false (fun h=>?_)]
  ·exact rmay_tS_at n w k1 k2 b1 b2 hT hS k3 k6 k9 x0
  ·have:=h.at_;simp at this;exact x0 this
 have g0:n.f=-1:=by omega
 by_cases x1:n.t < 0
 ·rw [decide_eq_false (fun h=>?_)]
  ·exact rmay_tS_c0 n w k1 k2 b1 b2 hT hS k3 k6 k9 g0 x1
  ·have:=h.core.1;simp at this;omega
 have g1:0 ≤ n.t:=by omega
 by_cases x2:15 < n.t
 ·rw [decide_eq_false (fun h=>?_)]
  ·exact rmay_tS_c1 n w k1 k2 b1 b2 hT hS k3 k6 k9 g0 g1 x2
  ·have:=h.core.2;simp at this;omega
 have g2:n.t ≤ 15:=by omega
 by_cases x3:¬ n.s=0
 ·rw [decide_eq_false (fun h=>?_)]
  ·exact rmay_tS_s n w k1 k2 b1 b2 hT hS k3 k6 k9 g0 g1 g2 x3
  ·exact x3 (h.s0 (by omega))
 have g3:n.s=0:=by omega
 by_cases x4:n.q=true
 ·rw [decide_eq_false (fun h=>?_)]
  ·exact rmay_tS_q n w k1 k2 b1 b2 hT hS k3 k6 k9 g0 g1 g2 g3 x4
  ·have:=h.q (by omega);rw [x4] at this;cases this
 have g4:n.q=false:=by simpa using x4
 by_cases x5:n.h=true
 ·rw [decide_eq_false (fun h=>?_)]
  ·exact rmay_tS_h n w k1 k2 b1 b2 hT hS k3 k6 k9 g0 g1 g2 g3 g4 x5
  ·have:=h.h369 x5;omega
 have g5:n.h=false:=by simpa using x5
 have:decide (n.Rule false true)=decide (n.d=zd):=by
  by_cases hd:n.d=zd
  ·rw [decide_eq_true hd,decide_eq_true (⟨by simpa using g0,by simp;omega,fun h=>(by cases h),fun h=>by omega,fun _=>g3,fun _=>g4,fun h=>by omega,fun h=>(by rw [g5] at h;cases h),fun _=>hd⟩)]
  ·rw [decide_eq_false hd,decide_eq_false (fun h=>hd (h.d g5))]
 rw [this]
 exact rmay_tS_dat n w k1 k2 b1 b2 hT hS k3 k6 k9 g0 g1 g2 g3 g4 g5
theorem rmay_ts_at (n:Nt) (w:World) (k1:1 ≤ n.k) (k2:n.k ≤ 11) (b1:0 ≤ n.b) (b2:n.b ≤ 255) (hT:tH n.k=false) (hS:sT n.k=false) (k3:¬ n.k=3) (k6:¬ n.k=6) (k9:¬ n.k=9) (hx:¬ n.f=-1):Calls Tryz.prog 152 #[.agg (na n)] w fun e w'=>e = .returned (.bool false)∧w.grownBy w' none:=by
 have HT:=qh (toHome_any n.k ⟨k1,k2⟩)
 have HS:=qh (stamped_any n.k ⟨k1,k2⟩)
 rw [hT] at HT
 rw [hS] at HS
 have c0:=box w n 0 _ rfl
 have c1:=box w n 1 _ rfl
 have c2:=box w n 2 _ rfl
 have c3:=box w n 3 _ rfl
 have c4:=box w n 4 _ rfl
 have c5:=box w n 5 _ rfl
 have c6:=box w n 6 _ rfl
 have c7:=box w n 7 _ rfl
 have hg:=qh (grown_alloc (grown_refl w none) (.cells (na n) 37))
 clear hT hS
 have k3b:(n.k == 3)=false:=by simpa using k3
 have k3c:(n.k != 3)=true:=by simpa using k3
 have k6b:(n.k == 6)=false:=by simpa using k6
 have k6c:(n.k != 6)=true:=by simpa using k6
 have k9b:(n.k == 9)=false:=by simpa using k9
 have k9c:(n.k != 9)=true:=by simpa using k9
 go_enter Tryz.func152,Tryz.ntmps152
 go_wp2_with (first
  | (go_at_call 174;((with_reducible refine (HT.out _).mono ?_);rintro e w1 ⟨rfl,rfl⟩))
  | (go_at_call 175;((with_reducible refine (HS.out _).mono ?_);rintro e w1 ⟨rfl,rfl⟩)))
 go_ret
 exact ⟨rfl,hg.out⟩
theorem rmay_ts_c0 (n:Nt) (w:World) (k1:1 ≤ n.k) (k2:n.k ≤ 11) (b1:0 ≤ n.b) (b2:n.b ≤ 255) (hT:tH n.k=false) (hS:sT n.k=false) (k3:¬ n.k=3) (k6:¬ n.k=6) (k9:¬ n.k=9) (g0:n.f=-1) (hx:n.t < 0):Calls Tryz.prog 152 #[.agg (na n)] w fun e w'=>e = .returned (.bool false)∧w.grownBy w' none:=by
 have HT:=qh (toHome_any n.k ⟨k1,k2⟩)
 have HS:=qh (stamped_any n.k ⟨k1,k2⟩)
 rw [hT] at HT
 rw [hS] at HS
 have c0:=box w n 0 _ rfl
 have c1:=box w n 1 _ rfl
 have c2:=box w n 2 _ rfl
 have c3:=box w n 3 _ rfl
 have c4:=box w n 4 _ rfl
 have c5:=box w n 5 _ rfl
 have c6:=box w n 6 _ rfl
 have c7:=box w n 7 _ rfl
 have hg:=qh (grown_alloc (grown_refl w none) (.cells (na n) 37))
 clear hT hS
 have k3b:(n.k == 3)=false:=by simpa using k3
 have k3c:(n.k != 3)=true:=by simpa using k3
 have k6b:(n.k == 6)=false:=by simpa using k6
 have k6c:(n.k != 6)=true:=by simpa using k6
 have k9b:(n.k == 9)=false:=by simpa using k9
 have k9c:(n.k != 9)=true:=by simpa using k9
 go_enter Tryz.func152,Tryz.ntmps152
 go_wp2_with (first
  | (go_at_call 174;((with_reducible refine (HT.out _).mono ?_);rintro e w1 ⟨rfl,rfl⟩))
  | (go_at_call 175;((with_reducible refine (HS.out _).mono ?_);rintro e w1 ⟨rfl,rfl⟩)))
 go_ret
 exact ⟨rfl,hg.out⟩
theorem rmay_ts_c1 (n:Nt) (w:World) (k1:1 ≤ n.k) (k2:n.k ≤ 11) (b1:0 ≤ n.b) (b2:n.b ≤ 255) (hT:tH n.k=false) (hS:sT n.k=false) (k3:¬ n.k=3) (k6:¬ n.k=6) (k9:¬ n.k=9) (g0:n.f=-1) (g1:0 ≤ n.t) (hx:15 < n.t):Calls Tryz.prog 152 #[.agg (na n)] w fun e w'=>e = .returned (.bool false)∧w.grownBy w' none:=by
 have HT:=qh (toHome_any n.k ⟨k1,k2⟩)
 have HS:=qh (stamped_any n.k ⟨k1,k2⟩)
 rw [hT] at HT
 rw [hS] at HS
 have c0:=box w n 0 _ rfl
 have c1:=box w n 1 _ rfl
 have c2:=box w n 2 _ rfl
 have c3:=box w n 3 _ rfl
 have c4:=box w n 4 _ rfl
 have c5:=box w n 5 _ rfl
 have c6:=box w n 6 _ rfl
 have c7:=box w n 7 _ rfl
 have hg:=qh (grown_alloc (grown_refl w none) (.cells (na n) 37))
 clear hT hS
 have k3b:(n.k == 3)=false:=by simpa using k3
 have k3c:(n.k != 3)=true:=by simpa using k3
 have k6b:(n.k == 6)=false:=by simpa using k6
 have k6c:(n.k != 6)=true:=by simpa using k6
 have k9b:(n.k == 9)=false:=by simpa using k9
 have k9c:(n.k != 9)=true:=by simpa using k9
 go_enter Tryz.func152,Tryz.ntmps152
 go_wp2_with (first
  | (go_at_call 174;((with_reducible refine (HT.out _).mono ?_);rintro e w1 ⟨rfl,rfl⟩))
  | (go_at_call 175;((with_reducible refine (HS.out _).mono ?_);rintro e w1 ⟨rfl,rfl⟩)))
 go_ret
 exact ⟨rfl,hg.out⟩
theorem rmay_ts_st (n:Nt) (w:World) (k1:1 ≤ n.k) (k2:n.k ≤ 11) (b1:0 ≤ n.b) (b2:n.b ≤ 255) (hT:tH n.k=false) (hS:sT n.k=false) (k3:¬ n.k=3) (k6:¬ n.k=6) (k9:¬ n.k=9) (g0:n.f=-1) (g1:0 ≤ n.t) (g2:n.t ≤ 15) (hx:¬ n.st=0):Calls Tryz.prog 152 #[.agg (na n)] w fun e w'=>e = .returned (.bool false)∧w.grownBy w' none:=by
 have HT:=qh (toHome_any n.k ⟨k1,k2⟩)
 have HS:=qh (stamped_any n.k ⟨k1,k2⟩)
 rw [hT] at HT
 rw [hS] at HS
 have c0:=box w n 0 _ rfl
 have c1:=box w n 1 _ rfl
 have c2:=box w n 2 _ rfl
 have c3:=box w n 3 _ rfl
 have c4:=box w n 4 _ rfl
 have c5:=box w n 5 _ rfl
 have c6:=box w n 6 _ rfl
 have c7:=box w n 7 _ rfl
 have hg:=qh (grown_alloc (grown_refl w none) (.cells (na n) 37))
 clear hT hS
 have k3b:(n.k == 3)=false:=by simpa using k3
 have k3c:(n.k != 3)=true:=by simpa using k3
 have k6b:(n.k == 6)=false:=by simpa using k6
 have k6c:(n.k != 6)=true:=by simpa using k6
 have k9b:(n.k == 9)=false:=by simpa using k9
 have k9c:(n.k != 9)=true:=by simpa using k9
 have hxb:(n.st == 0)=false:=by simpa using hx
 have hxc:(n.st != 0)=true:=by simpa using hx
 go_enter Tryz.func152,Tryz.ntmps152
 go_wp2_with (first
  | (go_at_call 174;((with_reducible refine (HT.out _).mono ?_);rintro e w1 ⟨rfl,rfl⟩))
  | (go_at_call 175;((with_reducible refine (HS.out _).mono ?_);rintro e w1 ⟨rfl,rfl⟩)))
 go_ret
 exact ⟨rfl,hg.out⟩
theorem rmay_ts_s (n:Nt) (w:World) (k1:1 ≤ n.k) (k2:n.k ≤ 11) (b1:0 ≤ n.b) (b2:n.b ≤ 255) (hT:tH n.k=false) (hS:sT n.k=false) (k3:¬ n.k=3) (k6:¬ n.k=6) (k9:¬ n.k=9) (g0:n.f=-1) (g1:0 ≤ n.t) (g2:n.t ≤ 15) (g3:n.st=0) (hx:¬ n.s=0):Calls Tryz.prog 152 #[.agg (na n)] w fun e w'=>e = .returned (.bool false)∧w.grownBy w' none:=by
 have HT:=qh (toHome_any n.k ⟨k1,k2⟩)
 have HS:=qh (stamped_any n.k ⟨k1,k2⟩)
 rw [hT] at HT
 rw [hS] at HS
 have c0:=box w n 0 _ rfl
 have c1:=box w n 1 _ rfl
 have c2:=box w n 2 _ rfl
 have c3:=box w n 3 _ rfl
 have c4:=box w n 4 _ rfl
 have c5:=box w n 5 _ rfl
 have c6:=box w n 6 _ rfl
 have c7:=box w n 7 _ rfl
 have hg:=qh (grown_alloc (grown_refl w none) (.cells (na n) 37))
 clear hT hS
 have k3b:(n.k == 3)=false:=by simpa using k3
 have k3c:(n.k != 3)=true:=by simpa using k3
 have k6b:(n.k == 6)=false:=by simpa using k6
 have k6c:(n.k != 6)=true:=by simpa using k6
 have k9b:(n.k == 9)=false:=by simpa using k9
 have k9c:(n.k != 9)=true:=by simpa using k9
 have hxb:(n.s == 0)=false:=by simpa using hx
 have hxc:(n.s != 0)=true:=by simpa using hx
 go_enter Tryz.func152,Tryz.ntmps152
 go_wp2_with (first
  | (go_at_call 174;((with_reducible refine (HT.out _).mono ?_);rintro e w1 ⟨rfl,rfl⟩))
  | (go_at_call 175;((with_reducible refine (HS.out _).mono ?_);rintro e w1 ⟨rfl,rfl⟩)))
 go_ret
 exact ⟨rfl,hg.out⟩
theorem rmay_ts_q (n:Nt) (w:World) (k1:1 ≤ n.k) (k2:n.k ≤ 11) (b1:0 ≤ n.b) (b2:n.b ≤ 255) (hT:tH n.k=false) (hS:sT n.k=false) (k3:¬ n.k=3) (k6:¬ n.k=6) (k9:¬ n.k=9) (g0:n.f=-1) (g1:0 ≤ n.t) (g2:n.t ≤ 15) (g3:n.st=0) (g4:n.s=0) (hx:n.q=true):Calls Tryz.prog 152 #[.agg (na n)] w fun e w'=>e = .returned (.bool false)∧w.grownBy w' none:=by
 have HT:=qh (toHome_any n.k ⟨k1,k2⟩)
 have HS:=qh (stamped_any n.k ⟨k1,k2⟩)
 rw [hT] at HT
 rw [hS] at HS
 have c0:=box w n 0 _ rfl
 have c1:=box w n 1 _ rfl
 have c2:=box w n 2 _ rfl
 have c3:=box w n 3 _ rfl
 have c4:=box w n 4 _ rfl
 have c5:=box w n 5 _ rfl
 have c6:=box w n 6 _ rfl
 have c7:=box w n 7 _ rfl
 have hg:=qh (grown_alloc (grown_refl w none) (.cells (na n) 37))
 clear hT hS
 have k3b:(n.k == 3)=false:=by simpa using k3
 have k3c:(n.k != 3)=true:=by simpa using k3
 have k6b:(n.k == 6)=false:=by simpa using k6
 have k6c:(n.k != 6)=true:=by simpa using k6
 have k9b:(n.k == 9)=false:=by simpa using k9
 have k9c:(n.k != 9)=true:=by simpa using k9
 rw [hx] at c7
 go_enter Tryz.func152,Tryz.ntmps152
 go_wp2_with (first
  | (go_at_call 174;((with_reducible refine (HT.out _).mono ?_);rintro e w1 ⟨rfl,rfl⟩))
  | (go_at_call 175;((with_reducible refine (HS.out _).mono ?_);rintro e w1 ⟨rfl,rfl⟩)))
 go_ret
 exact ⟨rfl,hg.out⟩
theorem rmay_ts_h (n:Nt) (w:World) (k1:1 ≤ n.k) (k2:n.k ≤ 11) (b1:0 ≤ n.b) (b2:n.b ≤ 255) (hT:tH n.k=false) (hS:sT n.k=false) (k3:¬ n.k=3) (k6:¬ n.k=6) (k9:¬ n.k=9) (g0:n.f=-1) (g1:0 ≤ n.t) (g2:n.t ≤ 15) (g3:n.st=0) (g4:n.s=0) (g5:n.q=false) (hx:n.h=true):Calls Tryz.prog 152 #[.agg (na n)] w fun e w'=>e = .returned (.bool false)∧w.grownBy w' none:=by
 have HT:=qh (toHome_any n.k ⟨k1,k2⟩)
 have HS:=qh (stamped_any n.k ⟨k1,k2⟩)
 rw [hT] at HT
 rw [hS] at HS
 have c0:=box w n 0 _ rfl
 have c1:=box w n 1 _ rfl
 have c2:=box w n 2 _ rfl
 have c3:=box w n 3 _ rfl
 have c4:=box w n 4 _ rfl
 have c5:=box w n 5 _ rfl
 have c6:=box w n 6 _ rfl
 have c7:=box w n 7 _ rfl
 have hg:=qh (grown_alloc (grown_refl w none) (.cells (na n) 37))
 clear hT hS
 have k3b:(n.k == 3)=false:=by simpa using k3
 have k3c:(n.k != 3)=true:=by simpa using k3
 have k6b:(n.k == 6)=false:=by simpa using k6
 have k6c:(n.k != 6)=true:=by simpa using k6
 have k9b:(n.k == 9)=false:=by simpa using k9
 have k9c:(n.k != 9)=true:=by simpa using k9
 rw [g5] at c7
 rw [hx] at c6
 go_enter Tryz.func152,Tryz.ntmps152
 go_wp2_with (first
  | (go_at_call 174;((with_reducible refine (HT.out _).mono ?_);rintro e w1 ⟨rfl,rfl⟩))
  | (go_at_call 175;((with_reducible refine (HS.out _).mono ?_);rintro e w1 ⟨rfl,rfl⟩)))
 go_ret
 exact ⟨rfl,hg.out⟩
theorem rmay_ts_dat (n:Nt) (w:World) (k1:1 ≤ n.k) (k2:n.k ≤ 11) (b1:0 ≤ n.b) (b2:n.b ≤ 255) (hT:tH n.k=false) (hS:sT n.k=false) (k3:¬ n.k=3) (k6:¬ n.k=6) (k9:¬ n.k=9) (g0:n.f=-1) (g1:0 ≤ n.t) (g2:n.t ≤ 15) (g3:n.st=0) (g4:n.s=0) (g5:n.q=false) (g6:n.h=false):Calls Tryz.prog 152 #[.agg (na n)] w fun e w'=>e = .returned (.bool (decide (n.d=zd)))∧w.grownBy w' none:=by
 have HT:=qh (toHome_any n.k ⟨k1,k2⟩)
 have HS:=qh (stamped_any n.k ⟨k1,k2⟩)
 rw [hT] at HT
 rw [hS] at HS
 have c0:=box w n 0 _ rfl
 have c1:=box w n 1 _ rfl
 have c2:=box w n 2 _ rfl
 have c3:=box w n 3 _ rfl
 have c4:=box w n 4 _ rfl
 have c5:=box w n 5 _ rfl
 have c6:=box w n 6 _ rfl
 have c7:=box w n 7 _ rfl
 have hg:=qh (grown_alloc (grown_refl w none) (.cells (na n) 37))
 clear hT hS
 have k3b:(n.k == 3)=false:=by simpa using k3
 have k3c:(n.k != 3)=true:=by simpa using k3
 have k6b:(n.k == 6)=false:=by simpa using k6
 have k6c:(n.k != 6)=true:=by simpa using k6
 have k9b:(n.k == 9)=false:=by simpa using k9
 have k9c:(n.k != 9)=true:=by simpa using k9
 rw [g5] at c7
 rw [g6] at c6
 obtain ⟨t,m,HTT,hagg,hsize,hld,hsz,hst⟩:=named29
 have hl1:=hld _ _ n.d n.hd _ (range_d (range_of (heap_alloc_new w (.cells (na n) 37))))
 have hq:=eql29 n.d n.hd
 clear hld hst hsz
 go_enter Tryz.func152,Tryz.ntmps152
 rw [HTT.out.1]
 go_wp2_with (first
  | (go_at_call 174;((with_reducible refine (HT.out _).mono ?_);rintro e w1 ⟨rfl,rfl⟩))
  | (go_at_call 175;((with_reducible refine (HS.out _).mono ?_);rintro e w1 ⟨rfl,rfl⟩)))
 go_ret
 exact ⟨rfl,hg.out⟩
theorem rmay_ts (n:Nt) (w:World) (k1:1 ≤ n.k) (k2:n.k ≤ 11) (b1:0 ≤ n.b) (b2:n.b ≤ 255) (hT:tH n.k=false) (hS:sT n.k=false) (k3:¬ n.k=3) (k6:¬ n.k=6) (k9:¬ n.k=9):Calls Tryz.prog 152 #[.agg (na n)] w fun e w'=>e = .returned (.bool (decide (n.Rule false false)))∧w.grownBy w' none:=by
 by_cases x0:¬ n.f=-1
 ·rw [decide_eq_false (fun h=>?_)]
  ·exact rmay_ts_at n w k1 k2 b1 b2 hT hS k3 k6 k9 x0
  ·have:=h.at_;simp at this;exact x0 this
 have g0:n.f=-1:=by omega
 by_cases x1:n.t < 0
 ·rw [decide_eq_false (fun h=>?_)]
  ·exact rmay_ts_c0 n w k1 k2 b1 b2 hT hS k3 k6 k9 g0 x1
  ·have:=h.core.1;simp at this;omega
 have g1:0 ≤ n.t:=by omega
 by_cases x2:15 < n.t
 ·rw [decide_eq_false (fun h=>?_)]
  ·exact rmay_ts_c1 n w k1 k2 b1 b2 hT hS k3 k6 k9 g0 g1 x2
  ·have:=h.core.2;simp at this;omega
 have g2:n.t ≤ 15:=by omega
 by_cases x3:¬ n.st=0
 ·rw [decide_eq_false (fun h=>?_)]
  ·exact rmay_ts_st n w k1 k2 b1 b2 hT hS k3 k6 k9 g0 g1 g2 x3
  ·exact x3 (h.st rfl)
 have g3:n.st=0:=by omega
 by_cases x4:¬ n.s=0
 ·rw [decide_eq_false (fun h=>?_)]
  ·exact rmay_ts_s n w k1 k2 b1 b2 hT hS k3 k6 k9 g0 g1 g2 g3 x4
  ·exact x4 (h.s0 (by omega))
 have g4:n.s=0:=by omega
 by_cases x5:n.q=true
 ·rw [decide_eq_false (fun h=>?_)]
  ·exact rmay_ts_q n w k1 k2 b1 b2 hT hS k3 k6 k9 g0 g1 g2 g3 g4 x5
  ·have:=h.q (by omega);rw [x5] at this;cases this
 have g5:n.q=false:=by simpa using x5
 by_cases x6:n.h=true
 ·rw [decide_eq_false (fun h=>?_)]
  ·exact rmay_ts_h n w k1 k2 b1 b2 hT hS k3 k6 k9 g0 g1 g2 g3 g4 g5 x6
  ·have:=h.h369 x6;omega
 have g6:n.h=false:=by simpa using x6
 have:decide (n.Rule false false)=decide (n.d=zd):=by
  by_cases hd:n.d=zd
  ·rw [decide_eq_true hd,decide_eq_true (⟨by simpa using g0,by simp;omega,fun _=>g3,fun h=>by omega,fun _=>g4,fun _=>g5,fun h=>by omega,fun h=>(by rw [g6] at h;cases h),fun _=>hd⟩)]
  ·rw [decide_eq_false hd,decide_eq_false (fun h=>hd (h.d g6))]
 rw [this]
 exact rmay_ts_dat n w k1 k2 b1 b2 hT hS k3 k6 k9 g0 g1 g2 g3 g4 g5 g6
theorem rmay_k3_at (n:Nt) (w:World) (k1:1 ≤ n.k) (k2:n.k ≤ 11) (b1:0 ≤ n.b) (b2:n.b ≤ 255) (hT:tH n.k=true) (hS:sT n.k=false) (hk:n.k=3) (hx:¬ n.t=-1):Calls Tryz.prog 152 #[.agg (na n)] w fun e w'=>e = .returned (.bool false)∧w.grownBy w' none:=by
 have HT:=qh (toHome_any n.k ⟨k1,k2⟩)
 have HS:=qh (stamped_any n.k ⟨k1,k2⟩)
 rw [hT] at HT
 rw [hS] at HS
 have c0:=box w n 0 _ rfl
 have c1:=box w n 1 _ rfl
 have c2:=box w n 2 _ rfl
 have c3:=box w n 3 _ rfl
 have c4:=box w n 4 _ rfl
 have c5:=box w n 5 _ rfl
 have c6:=box w n 6 _ rfl
 have c7:=box w n 7 _ rfl
 have hg:=qh (grown_alloc (grown_refl w none) (.cells (na n) 37))
 clear hT hS
 rw [hk] at c0 HT HS
 clear k1 k2 hk
 go_enter Tryz.func152,Tryz.ntmps152
 go_wp2_with (first
  | (go_at_call 174;((with_reducible refine (HT.out _).mono ?_);rintro e w1 ⟨rfl,rfl⟩))
  | (go_at_call 175;((with_reducible refine (HS.out _).mono ?_);rintro e w1 ⟨rfl,rfl⟩)))
 go_ret
 exact ⟨rfl,hg.out⟩
theorem rmay_k3_c0 (n:Nt) (w:World) (k1:1 ≤ n.k) (k2:n.k ≤ 11) (b1:0 ≤ n.b) (b2:n.b ≤ 255) (hT:tH n.k=true) (hS:sT n.k=false) (hk:n.k=3) (g0:n.t=-1) (hx:n.f < 0):Calls Tryz.prog 152 #[.agg (na n)] w fun e w'=>e = .returned (.bool false)∧w.grownBy w' none:=by
 have HT:=qh (toHome_any n.k ⟨k1,k2⟩)
 have HS:=qh (stamped_any n.k ⟨k1,k2⟩)
 rw [hT] at HT
 rw [hS] at HS
 have c0:=box w n 0 _ rfl
 have c1:=box w n 1 _ rfl
 have c2:=box w n 2 _ rfl
 have c3:=box w n 3 _ rfl
 have c4:=box w n 4 _ rfl
 have c5:=box w n 5 _ rfl
 have c6:=box w n 6 _ rfl
 have c7:=box w n 7 _ rfl
 have hg:=qh (grown_alloc (grown_refl w none) (.cells (na n) 37))
 clear hT hS
 rw [hk] at c0 HT HS
 clear k1 k2 hk
 go_enter Tryz.func152,Tryz.ntmps152
 go_wp2_with (first
  | (go_at_call 174;((with_reducible refine (HT.out _).mono ?_);rintro e w1 ⟨rfl,rfl⟩))
  | (go_at_call 175;((with_reducible refine (HS.out _).mono ?_);rintro e w1 ⟨rfl,rfl⟩)))
 go_ret
 exact ⟨rfl,hg.out⟩
theorem rmay_k3_c1 (n:Nt) (w:World) (k1:1 ≤ n.k) (k2:n.k ≤ 11) (b1:0 ≤ n.b) (b2:n.b ≤ 255) (hT:tH n.k=true) (hS:sT n.k=false) (hk:n.k=3) (g0:n.t=-1) (g1:0 ≤ n.f) (hx:15 < n.f):Calls Tryz.prog 152 #[.agg (na n)] w fun e w'=>e = .returned (.bool false)∧w.grownBy w' none:=by
 have HT:=qh (toHome_any n.k ⟨k1,k2⟩)
 have HS:=qh (stamped_any n.k ⟨k1,k2⟩)
 rw [hT] at HT
 rw [hS] at HS
 have c0:=box w n 0 _ rfl
 have c1:=box w n 1 _ rfl
 have c2:=box w n 2 _ rfl
 have c3:=box w n 3 _ rfl
 have c4:=box w n 4 _ rfl
 have c5:=box w n 5 _ rfl
 have c6:=box w n 6 _ rfl
 have c7:=box w n 7 _ rfl
 have hg:=qh (grown_alloc (grown_refl w none) (.cells (na n) 37))
 clear hT hS
 rw [hk] at c0 HT HS
 clear k1 k2 hk
 go_enter Tryz.func152,Tryz.ntmps152
 go_wp2_with (first
  | (go_at_call 174;((with_reducible refine (HT.out _).mono ?_);rintro e w1 ⟨rfl,rfl⟩))
  | (go_at_call 175;((with_reducible refine (HS.out _).mono ?_);rintro e w1 ⟨rfl,rfl⟩)))
 go_ret
 exact ⟨rfl,hg.out⟩
theorem rmay_k3_st (n:Nt) (w:World) (k1:1 ≤ n.k) (k2:n.k ≤ 11) (b1:0 ≤ n.b) (b2:n.b ≤ 255) (hT:tH n.k=true) (hS:sT n.k=false) (hk:n.k=3) (g0:n.t=-1) (g1:0 ≤ n.f) (g2:n.f ≤ 15) (hx:¬ n.st=0):Calls Tryz.prog 152 #[.agg (na n)] w fun e w'=>e = .returned (.bool false)∧w.grownBy w' none:=by
 have HT:=qh (toHome_any n.k ⟨k1,k2⟩)
 have HS:=qh (stamped_any n.k ⟨k1,k2⟩)
 rw [hT] at HT
 rw [hS] at HS
 have c0:=box w n 0 _ rfl
 have c1:=box w n 1 _ rfl
 have c2:=box w n 2 _ rfl
 have c3:=box w n 3 _ rfl
 have c4:=box w n 4 _ rfl
 have c5:=box w n 5 _ rfl
 have c6:=box w n 6 _ rfl
 have c7:=box w n 7 _ rfl
 have hg:=qh (grown_alloc (grown_refl w none) (.cells (na n) 37))
 clear hT hS
 rw [hk] at c0 HT HS
 clear k1 k2 hk
 have hxb:(n.st == 0)=false:=by simpa using hx
 have hxc:(n.st != 0)=true:=by simpa using hx
 go_enter Tryz.func152,Tryz.ntmps152
 go_wp2_with (first
  | (go_at_call 174;((with_reducible refine (HT.out _).mono ?_);rintro e w1 ⟨rfl,rfl⟩))
  | (go_at_call 175;((with_reducible refine (HS.out _).mono ?_);rintro e w1 ⟨rfl,rfl⟩)))
 go_ret
 exact ⟨rfl,hg.out⟩
theorem rmay_k3_s (n:Nt) (w:World) (k1:1 ≤ n.k) (k2:n.k ≤ 11) (b1:0 ≤ n.b) (b2:n.b ≤ 255) (hT:tH n.k=true) (hS:sT n.k=false) (hk:n.k=3) (g0:n.t=-1) (g1:0 ≤ n.f) (g2:n.f ≤ 15) (g3:n.st=0) (hx:¬ n.s=0):Calls Tryz.prog 152 #[.agg (na n)] w fun e w'=>e = .returned (.bool false)∧w.grownBy w' none:=by
 have HT:=qh (toHome_any n.k ⟨k1,k2⟩)
 have HS:=qh (stamped_any n.k ⟨k1,k2⟩)
 rw [hT] at HT
 rw [hS] at HS
 have c0:=box w n 0 _ rfl
 have c1:=box w n 1 _ rfl
 have c2:=box w n 2 _ rfl
 have c3:=box w n 3 _ rfl
 have c4:=box w n 4 _ rfl
 have c5:=box w n 5 _ rfl
 have c6:=box w n 6 _ rfl
 have c7:=box w n 7 _ rfl
 have hg:=qh (grown_alloc (grown_refl w none) (.cells (na n) 37))
 clear hT hS
 rw [hk] at c0 HT HS
 clear k1 k2 hk
 have hxb:(n.s == 0)=false:=by simpa using hx
 have hxc:(n.s != 0)=true:=by simpa using hx
 go_enter Tryz.func152,Tryz.ntmps152
 go_wp2_with (first
  | (go_at_call 174;((with_reducible refine (HT.out _).mono ?_);rintro e w1 ⟨rfl,rfl⟩))
  | (go_at_call 175;((with_reducible refine (HS.out _).mono ?_);rintro e w1 ⟨rfl,rfl⟩)))
 go_ret
 exact ⟨rfl,hg.out⟩
theorem rmay_k3_h (n:Nt) (w:World) (k1:1 ≤ n.k) (k2:n.k ≤ 11) (b1:0 ≤ n.b) (b2:n.b ≤ 255) (hT:tH n.k=true) (hS:sT n.k=false) (hk:n.k=3) (g0:n.t=-1) (g1:0 ≤ n.f) (g2:n.f ≤ 15) (g3:n.st=0) (g4:n.s=0) (hx:n.h=false):Calls Tryz.prog 152 #[.agg (na n)] w fun e w'=>e = .returned (.bool false)∧w.grownBy w' none:=by
 have HT:=qh (toHome_any n.k ⟨k1,k2⟩)
 have HS:=qh (stamped_any n.k ⟨k1,k2⟩)
 rw [hT] at HT
 rw [hS] at HS
 have c0:=box w n 0 _ rfl
 have c1:=box w n 1 _ rfl
 have c2:=box w n 2 _ rfl
 have c3:=box w n 3 _ rfl
 have c4:=box w n 4 _ rfl
 have c5:=box w n 5 _ rfl
 have c6:=box w n 6 _ rfl
 have c7:=box w n 7 _ rfl
 have hg:=qh (grown_alloc (grown_refl w none) (.cells (na n) 37))
 clear hT hS
 rw [hk] at c0 HT HS
 clear k1 k2 hk
 rw [hx] at c6
 go_enter Tryz.func152,Tryz.ntmps152
 go_wp2_with (first
  | (go_at_call 174;((with_reducible refine (HT.out _).mono ?_);rintro e w1 ⟨rfl,rfl⟩))
  | (go_at_call 175;((with_reducible refine (HS.out _).mono ?_);rintro e w1 ⟨rfl,rfl⟩)))
 go_ret
 exact ⟨rfl,hg.out⟩
theorem rmay_k3_end (n:Nt) (w:World) (k1:1 ≤ n.k) (k2:n.k ≤ 11) (b1:0 ≤ n.b) (b2:n.b ≤ 255) (hT:tH n.k=true) (hS:sT n.k=false) (hk:n.k=3) (g0:n.t=-1) (g1:0 ≤ n.f) (g2:n.f ≤ 15) (g3:n.st=0) (g4:n.s=0) (g5:n.h=true):Calls Tryz.prog 152 #[.agg (na n)] w fun e w'=>e = .returned (.bool true)∧w.grownBy w' none:=by
 have HT:=qh (toHome_any n.k ⟨k1,k2⟩)
 have HS:=qh (stamped_any n.k ⟨k1,k2⟩)
 rw [hT] at HT
 rw [hS] at HS
 have c0:=box w n 0 _ rfl
 have c1:=box w n 1 _ rfl
 have c2:=box w n 2 _ rfl
 have c3:=box w n 3 _ rfl
 have c4:=box w n 4 _ rfl
 have c5:=box w n 5 _ rfl
 have c6:=box w n 6 _ rfl
 have c7:=box w n 7 _ rfl
 have hg:=qh (grown_alloc (grown_refl w none) (.cells (na n) 37))
 clear hT hS
 rw [hk] at c0 HT HS
 clear k1 k2 hk
 rw [g5] at c6
 go_enter Tryz.func152,Tryz.ntmps152
 go_wp2_with (first
  | (go_at_call 174;((with_reducible refine (HT.out _).mono ?_);rintro e w1 ⟨rfl,rfl⟩))
  | (go_at_call 175;((with_reducible refine (HS.out _).mono ?_);rintro e w1 ⟨rfl,rfl⟩)))
 go_ret
 exact ⟨rfl,hg.out⟩
theorem rmay_k3 (n:Nt) (w:World) (k1:1 ≤ n.k) (k2:n.k ≤ 11) (b1:0 ≤ n.b) (b2:n.b ≤ 255) (hT:tH n.k=true) (hS:sT n.k=false) (hk:n.k=3):Calls Tryz.prog 152 #[.agg (na n)] w fun e w'=>e = .returned (.bool (decide (n.Rule true false)))∧w.grownBy w' none:=by
 by_cases x0:¬ n.t=-1
 ·rw [decide_eq_false (fun h=>?_)]
  ·exact rmay_k3_at n w k1 k2 b1 b2 hT hS hk x0
  ·have:=h.at_;simp at this;exact x0 this
 have g0:n.t=-1:=by omega
 by_cases x1:n.f < 0
 ·rw [decide_eq_false (fun h=>?_)]
  ·exact rmay_k3_c0 n w k1 k2 b1 b2 hT hS hk g0 x1
  ·have:=h.core.1;simp at this;omega
 have g1:0 ≤ n.f:=by omega
 by_cases x2:15 < n.f
 ·rw [decide_eq_false (fun h=>?_)]
  ·exact rmay_k3_c1 n w k1 k2 b1 b2 hT hS hk g0 g1 x2
  ·have:=h.core.2;simp at this;omega
 have g2:n.f ≤ 15:=by omega
 by_cases x3:¬ n.st=0
 ·rw [decide_eq_false (fun h=>?_)]
  ·exact rmay_k3_st n w k1 k2 b1 b2 hT hS hk g0 g1 g2 x3
  ·exact x3 (h.st rfl)
 have g3:n.st=0:=by omega
 by_cases x4:¬ n.s=0
 ·rw [decide_eq_false (fun h=>?_)]
  ·exact rmay_k3_s n w k1 k2 b1 b2 hT hS hk g0 g1 g2 g3 x4
  ·exact x4 (h.s0 (by omega))
 have g4:n.s=0:=by omega
 by_cases x5:n.h=false
 ·rw [decide_eq_false (fun h=>?_)]
  ·exact rmay_k3_h n w k1 k2 b1 b2 hT hS hk g0 g1 g2 g3 g4 x5
  ·have:=h.h36 (by omega);rw [x5] at this;cases this
 have g5:n.h=true:=by simpa using x5
 rw [decide_eq_true (⟨by simpa using g0,by simp;omega,fun _=>g3,fun h=>by omega,fun _=>g4,fun h=>absurd hk h,fun _=>g5,fun _=>by omega,fun h=>(by rw [g5] at h;cases h)⟩)]
 exact rmay_k3_end n w k1 k2 b1 b2 hT hS hk g0 g1 g2 g3 g4 g5
theorem rmay_k6_at (n:Nt) (w:World) (k1:1 ≤ n.k) (k2:n.k ≤ 11) (b1:0 ≤ n.b) (b2:n.b ≤ 255) (hT:tH n.k=false) (hS:sT n.k=false) (hk:n.k=6) (hx:¬ n.f=-1):Calls Tryz.prog 152 #[.agg (na n)] w fun e w'=>e = .returned (.bool false)∧w.grownBy w' none:=by
 have HT:=qh (toHome_any n.k ⟨k1,k2⟩)
 have HS:=qh (stamped_any n.k ⟨k1,k2⟩)
 rw [hT] at HT
 rw [hS] at HS
 have c0:=box w n 0 _ rfl
 have c1:=box w n 1 _ rfl
 have c2:=box w n 2 _ rfl
 have c3:=box w n 3 _ rfl
 have c4:=box w n 4 _ rfl
 have c5:=box w n 5 _ rfl
 have c6:=box w n 6 _ rfl
 have c7:=box w n 7 _ rfl
 have hg:=qh (grown_alloc (grown_refl w none) (.cells (na n) 37))
 clear hT hS
 rw [hk] at c0 HT HS
 clear k1 k2 hk
 go_enter Tryz.func152,Tryz.ntmps152
 go_wp2_with (first
  | (go_at_call 174;((with_reducible refine (HT.out _).mono ?_);rintro e w1 ⟨rfl,rfl⟩))
  | (go_at_call 175;((with_reducible refine (HS.out _).mono ?_);rintro e w1 ⟨rfl,rfl⟩)))
 go_ret
 exact ⟨rfl,hg.out⟩
theorem rmay_k6_c0 (n:Nt) (w:World) (k1:1 ≤ n.k) (k2:n.k ≤ 11) (b1:0 ≤ n.b) (b2:n.b ≤ 255) (hT:tH n.k=false) (hS:sT n.k=false) (hk:n.k=6) (g0:n.f=-1) (hx:n.t < 0):Calls Tryz.prog 152 #[.agg (na n)] w fun e w'=>e = .returned (.bool false)∧w.grownBy w' none:=by
 have HT:=qh (toHome_any n.k ⟨k1,k2⟩)
 have HS:=qh (stamped_any n.k ⟨k1,k2⟩)
 rw [hT] at HT
 rw [hS] at HS
 have c0:=box w n 0 _ rfl
 have c1:=box w n 1 _ rfl
 have c2:=box w n 2 _ rfl
 have c3:=box w n 3 _ rfl
 have c4:=box w n 4 _ rfl
 have c5:=box w n 5 _ rfl
 have c6:=box w n 6 _ rfl
 have c7:=box w n 7 _ rfl
 have hg:=qh (grown_alloc (grown_refl w none) (.cells (na n) 37))
 clear hT hS
 rw [hk] at c0 HT HS
 clear k1 k2 hk
 go_enter Tryz.func152,Tryz.ntmps152
 go_wp2_with (first
  | (go_at_call 174;((with_reducible refine (HT.out _).mono ?_);rintro e w1 ⟨rfl,rfl⟩))
  | (go_at_call 175;((with_reducible refine (HS.out _).mono ?_);rintro e w1 ⟨rfl,rfl⟩)))
 go_ret
 exact ⟨rfl,hg.out⟩
theorem rmay_k6_c1 (n:Nt) (w:World) (k1:1 ≤ n.k) (k2:n.k ≤ 11) (b1:0 ≤ n.b) (b2:n.b ≤ 255) (hT:tH n.k=false) (hS:sT n.k=false) (hk:n.k=6) (g0:n.f=-1) (g1:0 ≤ n.t) (hx:15 < n.t):Calls Tryz.prog 152 #[.agg (na n)] w fun e w'=>e = .returned (.bool false)∧w.grownBy w' none:=by
 have HT:=qh (toHome_any n.k ⟨k1,k2⟩)
 have HS:=qh (stamped_any n.k ⟨k1,k2⟩)
 rw [hT] at HT
 rw [hS] at HS
 have c0:=box w n 0 _ rfl
 have c1:=box w n 1 _ rfl
 have c2:=box w n 2 _ rfl
 have c3:=box w n 3 _ rfl
 have c4:=box w n 4 _ rfl
 have c5:=box w n 5 _ rfl
 have c6:=box w n 6 _ rfl
 have c7:=box w n 7 _ rfl
 have hg:=qh (grown_alloc (grown_refl w none) (.cells (na n) 37))
 clear hT hS
 rw [hk] at c0 HT HS
 clear k1 k2 hk
 go_enter Tryz.func152,Tryz.ntmps152
 go_wp2_with (first
  | (go_at_call 174;((with_reducible refine (HT.out _).mono ?_);rintro e w1 ⟨rfl,rfl⟩))
  | (go_at_call 175;((with_reducible refine (HS.out _).mono ?_);rintro e w1 ⟨rfl,rfl⟩)))
 go_ret
 exact ⟨rfl,hg.out⟩
theorem rmay_k6_st (n:Nt) (w:World) (k1:1 ≤ n.k) (k2:n.k ≤ 11) (b1:0 ≤ n.b) (b2:n.b ≤ 255) (hT:tH n.k=false) (hS:sT n.k=false) (hk:n.k=6) (g0:n.f=-1) (g1:0 ≤ n.t) (g2:n.t ≤ 15) (hx:¬ n.st=0):Calls Tryz.prog 152 #[.agg (na n)] w fun e w'=>e = .returned (.bool false)∧w.grownBy w' none:=by
 have HT:=qh (toHome_any n.k ⟨k1,k2⟩)
 have HS:=qh (stamped_any n.k ⟨k1,k2⟩)
 rw [hT] at HT
 rw [hS] at HS
 have c0:=box w n 0 _ rfl
 have c1:=box w n 1 _ rfl
 have c2:=box w n 2 _ rfl
 have c3:=box w n 3 _ rfl
 have c4:=box w n 4 _ rfl
 have c5:=box w n 5 _ rfl
 have c6:=box w n 6 _ rfl
 have c7:=box w n 7 _ rfl
 have hg:=qh (grown_alloc (grown_refl w none) (.cells (na n) 37))
 clear hT hS
 rw [hk] at c0 HT HS
 clear k1 k2 hk
 have hxb:(n.st == 0)=false:=by simpa using hx
 have hxc:(n.st != 0)=true:=by simpa using hx
 go_enter Tryz.func152,Tryz.ntmps152
 go_wp2_with (first
  | (go_at_call 174;((with_reducible refine (HT.out _).mono ?_);rintro e w1 ⟨rfl,rfl⟩))
  | (go_at_call 175;((with_reducible refine (HS.out _).mono ?_);rintro e w1 ⟨rfl,rfl⟩)))
 go_ret
 exact ⟨rfl,hg.out⟩
theorem rmay_k6_s0 (n:Nt) (w:World) (k1:1 ≤ n.k) (k2:n.k ≤ 11) (b1:0 ≤ n.b) (b2:n.b ≤ 255) (hT:tH n.k=false) (hS:sT n.k=false) (hk:n.k=6) (g0:n.f=-1) (g1:0 ≤ n.t) (g2:n.t ≤ 15) (g3:n.st=0) (hx:n.s < 1):Calls Tryz.prog 152 #[.agg (na n)] w fun e w'=>e = .returned (.bool false)∧w.grownBy w' none:=by
 have HT:=qh (toHome_any n.k ⟨k1,k2⟩)
 have HS:=qh (stamped_any n.k ⟨k1,k2⟩)
 rw [hT] at HT
 rw [hS] at HS
 have c0:=box w n 0 _ rfl
 have c1:=box w n 1 _ rfl
 have c2:=box w n 2 _ rfl
 have c3:=box w n 3 _ rfl
 have c4:=box w n 4 _ rfl
 have c5:=box w n 5 _ rfl
 have c6:=box w n 6 _ rfl
 have c7:=box w n 7 _ rfl
 have hg:=qh (grown_alloc (grown_refl w none) (.cells (na n) 37))
 clear hT hS
 rw [hk] at c0 HT HS
 clear k1 k2 hk
 go_enter Tryz.func152,Tryz.ntmps152
 go_wp2_with (first
  | (go_at_call 174;((with_reducible refine (HT.out _).mono ?_);rintro e w1 ⟨rfl,rfl⟩))
  | (go_at_call 175;((with_reducible refine (HS.out _).mono ?_);rintro e w1 ⟨rfl,rfl⟩)))
 go_ret
 exact ⟨rfl,hg.out⟩
theorem rmay_k6_s1 (n:Nt) (w:World) (k1:1 ≤ n.k) (k2:n.k ≤ 11) (b1:0 ≤ n.b) (b2:n.b ≤ 255) (hT:tH n.k=false) (hS:sT n.k=false) (hk:n.k=6) (g0:n.f=-1) (g1:0 ≤ n.t) (g2:n.t ≤ 15) (g3:n.st=0) (g4:1 ≤ n.s) (hx:3 < n.s):Calls Tryz.prog 152 #[.agg (na n)] w fun e w'=>e = .returned (.bool false)∧w.grownBy w' none:=by
 have HT:=qh (toHome_any n.k ⟨k1,k2⟩)
 have HS:=qh (stamped_any n.k ⟨k1,k2⟩)
 rw [hT] at HT
 rw [hS] at HS
 have c0:=box w n 0 _ rfl
 have c1:=box w n 1 _ rfl
 have c2:=box w n 2 _ rfl
 have c3:=box w n 3 _ rfl
 have c4:=box w n 4 _ rfl
 have c5:=box w n 5 _ rfl
 have c6:=box w n 6 _ rfl
 have c7:=box w n 7 _ rfl
 have hg:=qh (grown_alloc (grown_refl w none) (.cells (na n) 37))
 clear hT hS
 rw [hk] at c0 HT HS
 clear k1 k2 hk
 go_enter Tryz.func152,Tryz.ntmps152
 go_wp2_with (first
  | (go_at_call 174;((with_reducible refine (HT.out _).mono ?_);rintro e w1 ⟨rfl,rfl⟩))
  | (go_at_call 175;((with_reducible refine (HS.out _).mono ?_);rintro e w1 ⟨rfl,rfl⟩)))
 go_ret
 exact ⟨rfl,hg.out⟩
theorem rmay_k6_q (n:Nt) (w:World) (k1:1 ≤ n.k) (k2:n.k ≤ 11) (b1:0 ≤ n.b) (b2:n.b ≤ 255) (hT:tH n.k=false) (hS:sT n.k=false) (hk:n.k=6) (g0:n.f=-1) (g1:0 ≤ n.t) (g2:n.t ≤ 15) (g3:n.st=0) (g4:1 ≤ n.s) (g5:n.s ≤ 3) (hx:n.q=true):Calls Tryz.prog 152 #[.agg (na n)] w fun e w'=>e = .returned (.bool false)∧w.grownBy w' none:=by
 have HT:=qh (toHome_any n.k ⟨k1,k2⟩)
 have HS:=qh (stamped_any n.k ⟨k1,k2⟩)
 rw [hT] at HT
 rw [hS] at HS
 have c0:=box w n 0 _ rfl
 have c1:=box w n 1 _ rfl
 have c2:=box w n 2 _ rfl
 have c3:=box w n 3 _ rfl
 have c4:=box w n 4 _ rfl
 have c5:=box w n 5 _ rfl
 have c6:=box w n 6 _ rfl
 have c7:=box w n 7 _ rfl
 have hg:=qh (grown_alloc (grown_refl w none) (.cells (na n) 37))
 clear hT hS
 rw [hk] at c0 HT HS
 clear k1 k2 hk
 rw [hx] at c7
 go_enter Tryz.func152,Tryz.ntmps152
 go_wp2_with (first
  | (go_at_call 174;((with_reducible refine (HT.out _).mono ?_);rintro e w1 ⟨rfl,rfl⟩))
  | (go_at_call 175;((with_reducible refine (HS.out _).mono ?_);rintro e w1 ⟨rfl,rfl⟩)))
 go_ret
 exact ⟨rfl,hg.out⟩
theorem rmay_k6_h (n:Nt) (w:World) (k1:1 ≤ n.k) (k2:n.k ≤ 11) (b1:0 ≤ n.b) (b2:n.b ≤ 255) (hT:tH n.k=false) (hS:sT n.k=false) (hk:n.k=6) (g0:n.f=-1) (g1:0 ≤ n.t) (g2:n.t ≤ 15) (g3:n.st=0) (g4:1 ≤ n.s) (g5:n.s ≤ 3) (g6:n.q=false) (hx:n.h=false):Calls Tryz.prog 152 #[.agg (na n)] w fun e w'=>e = .returned (.bool false)∧w.grownBy w' none:=by
 have HT:=qh (toHome_any n.k ⟨k1,k2⟩)
 have HS:=qh (stamped_any n.k ⟨k1,k2⟩)
 rw [hT] at HT
 rw [hS] at HS
 have c0:=box w n 0 _ rfl
 have c1:=box w n 1 _ rfl
 have c2:=box w n 2 _ rfl
 have c3:=box w n 3 _ rfl
 have c4:=box w n 4 _ rfl
 have c5:=box w n 5 _ rfl
 have c6:=box w n 6 _ rfl
 have c7:=box w n 7 _ rfl
 have hg:=qh (grown_alloc (grown_refl w none) (.cells (na n) 37))
 clear hT hS
 rw [hk] at c0 HT HS
 clear k1 k2 hk
 rw [g6] at c7
 rw [hx] at c6
 go_enter Tryz.func152,Tryz.ntmps152
 go_wp2_with (first
  | (go_at_call 174;((with_reducible refine (HT.out _).mono ?_);rintro e w1 ⟨rfl,rfl⟩))
  | (go_at_call 175;((with_reducible refine (HS.out _).mono ?_);rintro e w1 ⟨rfl,rfl⟩)))
 go_ret
 exact ⟨rfl,hg.out⟩
theorem rmay_k6_end (n:Nt) (w:World) (k1:1 ≤ n.k) (k2:n.k ≤ 11) (b1:0 ≤ n.b) (b2:n.b ≤ 255) (hT:tH n.k=false) (hS:sT n.k=false) (hk:n.k=6) (g0:n.f=-1) (g1:0 ≤ n.t) (g2:n.t ≤ 15) (g3:n.st=0) (g4:1 ≤ n.s) (g5:n.s ≤ 3) (g6:n.q=false) (g7:n.h=true):Calls Tryz.prog 152 #[.agg (na n)] w fun e w'=>e = .returned (.bool true)∧w.grownBy w' none:=by
 have HT:=qh (toHome_any n.k ⟨k1,k2⟩)
 have HS:=qh (stamped_any n.k ⟨k1,k2⟩)
 rw [hT] at HT
 rw [hS] at HS
 have c0:=box w n 0 _ rfl
 have c1:=box w n 1 _ rfl
 have c2:=box w n 2 _ rfl
 have c3:=box w n 3 _ rfl
 have c4:=box w n 4 _ rfl
 have c5:=box w n 5 _ rfl
 have c6:=box w n 6 _ rfl
 have c7:=box w n 7 _ rfl
 have hg:=qh (grown_alloc (grown_refl w none) (.cells (na n) 37))
 clear hT hS
 rw [hk] at c0 HT HS
 clear k1 k2 hk
 rw [g6] at c7
 rw [g7] at c6
 go_enter Tryz.func152,Tryz.ntmps152
 go_wp2_with (first
  | (go_at_call 174;((with_reducible refine (HT.out _).mono ?_);rintro e w1 ⟨rfl,rfl⟩))
  | (go_at_call 175;((with_reducible refine (HS.out _).mono ?_);rintro e w1 ⟨rfl,rfl⟩)))
 go_ret
 exact ⟨rfl,hg.out⟩
theorem rmay_k6 (n:Nt) (w:World) (k1:1 ≤ n.k) (k2:n.k ≤ 11) (b1:0 ≤ n.b) (b2:n.b ≤ 255) (hT:tH n.k=false) (hS:sT n.k=false) (hk:n.k=6):Calls Tryz.prog 152 #[.agg (na n)] w fun e w'=>e = .returned (.bool (decide (n.Rule false false)))∧w.grownBy w' none:=by
 by_cases x0:¬ n.f=-1
 ·rw [decide_eq_false (fun h=>?_)]
  ·exact rmay_k6_at n w k1 k2 b1 b2 hT hS hk x0
  ·have:=h.at_;simp at this;exact x0 this
 have g0:n.f=-1:=by omega
 by_cases x1:n.t < 0
 ·rw [decide_eq_false (fun h=>?_)]
  ·exact rmay_k6_c0 n w k1 k2 b1 b2 hT hS hk g0 x1
  ·have:=h.core.1;simp at this;omega
 have g1:0 ≤ n.t:=by omega
 by_cases x2:15 < n.t
 ·rw [decide_eq_false (fun h=>?_)]
  ·exact rmay_k6_c1 n w k1 k2 b1 b2 hT hS hk g0 g1 x2
  ·have:=h.core.2;simp at this;omega
 have g2:n.t ≤ 15:=by omega
 by_cases x3:¬ n.st=0
 ·rw [decide_eq_false (fun h=>?_)]
  ·exact rmay_k6_st n w k1 k2 b1 b2 hT hS hk g0 g1 g2 x3
  ·exact x3 (h.st rfl)
 have g3:n.st=0:=by omega
 by_cases x4:n.s < 1
 ·rw [decide_eq_false (fun h=>?_)]
  ·exact rmay_k6_s0 n w k1 k2 b1 b2 hT hS hk g0 g1 g2 g3 x4
  ·have:=h.s6 hk;omega
 have g4:1 ≤ n.s:=by omega
 by_cases x5:3 < n.s
 ·rw [decide_eq_false (fun h=>?_)]
  ·exact rmay_k6_s1 n w k1 k2 b1 b2 hT hS hk g0 g1 g2 g3 g4 x5
  ·have:=h.s6 hk;omega
 have g5:n.s ≤ 3:=by omega
 by_cases x6:n.q=true
 ·rw [decide_eq_false (fun h=>?_)]
  ·exact rmay_k6_q n w k1 k2 b1 b2 hT hS hk g0 g1 g2 g3 g4 g5 x6
  ·have:=h.q (by omega);rw [x6] at this;cases this
 have g6:n.q=false:=by simpa using x6
 by_cases x7:n.h=false
 ·rw [decide_eq_false (fun h=>?_)]
  ·exact rmay_k6_h n w k1 k2 b1 b2 hT hS hk g0 g1 g2 g3 g4 g5 g6 x7
  ·have:=h.h36 (by omega);rw [x7] at this;cases this
 have g7:n.h=true:=by simpa using x7
 rw [decide_eq_true (⟨by simpa using g0,by simp;omega,fun _=>g3,fun _=>⟨g4,g5⟩,fun h=>absurd hk h,fun _=>g6,fun _=>g7,fun _=>by omega,fun h=>(by rw [g7] at h;cases h)⟩)]
 exact rmay_k6_end n w k1 k2 b1 b2 hT hS hk g0 g1 g2 g3 g4 g5 g6 g7
theorem rmay_k9_at (n:Nt) (w:World) (k1:1 ≤ n.k) (k2:n.k ≤ 11) (b1:0 ≤ n.b) (b2:n.b ≤ 255) (hT:tH n.k=true) (hS:sT n.k=false) (hk:n.k=9) (hx:¬ n.t=-1):Calls Tryz.prog 152 #[.agg (na n)] w fun e w'=>e = .returned (.bool false)∧w.grownBy w' none:=by
 have HT:=qh (toHome_any n.k ⟨k1,k2⟩)
 have HS:=qh (stamped_any n.k ⟨k1,k2⟩)
 rw [hT] at HT
 rw [hS] at HS
 have c0:=box w n 0 _ rfl
 have c1:=box w n 1 _ rfl
 have c2:=box w n 2 _ rfl
 have c3:=box w n 3 _ rfl
 have c4:=box w n 4 _ rfl
 have c5:=box w n 5 _ rfl
 have c6:=box w n 6 _ rfl
 have c7:=box w n 7 _ rfl
 have hg:=qh (grown_alloc (grown_refl w none) (.cells (na n) 37))
 clear hT hS
 rw [hk] at c0 HT HS
 clear k1 k2 hk
 go_enter Tryz.func152,Tryz.ntmps152
 go_wp2_with (first
  | (go_at_call 174;((with_reducible refine (HT.out _).mono ?_);rintro e w1 ⟨rfl,rfl⟩))
  | (go_at_call 175;((with_reducible refine (HS.out _).mono ?_);rintro e w1 ⟨rfl,rfl⟩)))
 go_ret
 exact ⟨rfl,hg.out⟩
theorem rmay_k9_c0 (n:Nt) (w:World) (k1:1 ≤ n.k) (k2:n.k ≤ 11) (b1:0 ≤ n.b) (b2:n.b ≤ 255) (hT:tH n.k=true) (hS:sT n.k=false) (hk:n.k=9) (g0:n.t=-1) (hx:n.f < 0):Calls Tryz.prog 152 #[.agg (na n)] w fun e w'=>e = .returned (.bool false)∧w.grownBy w' none:=by
 have HT:=qh (toHome_any n.k ⟨k1,k2⟩)
 have HS:=qh (stamped_any n.k ⟨k1,k2⟩)
 rw [hT] at HT
 rw [hS] at HS
 have c0:=box w n 0 _ rfl
 have c1:=box w n 1 _ rfl
 have c2:=box w n 2 _ rfl
 have c3:=box w n 3 _ rfl
 have c4:=box w n 4 _ rfl
 have c5:=box w n 5 _ rfl
 have c6:=box w n 6 _ rfl
 have c7:=box w n 7 _ rfl
 have hg:=qh (grown_alloc (grown_refl w none) (.cells (na n) 37))
 clear hT hS
 rw [hk] at c0 HT HS
 clear k1 k2 hk
 go_enter Tryz.func152,Tryz.ntmps152
 go_wp2_with (first
  | (go_at_call 174;((with_reducible refine (HT.out _).mono ?_);rintro e w1 ⟨rfl,rfl⟩))
  | (go_at_call 175;((with_reducible refine (HS.out _).mono ?_);rintro e w1 ⟨rfl,rfl⟩)))
 go_ret
 exact ⟨rfl,hg.out⟩
theorem rmay_k9_c1 (n:Nt) (w:World) (k1:1 ≤ n.k) (k2:n.k ≤ 11) (b1:0 ≤ n.b) (b2:n.b ≤ 255) (hT:tH n.k=true) (hS:sT n.k=false) (hk:n.k=9) (g0:n.t=-1) (g1:0 ≤ n.f) (hx:15 < n.f):Calls Tryz.prog 152 #[.agg (na n)] w fun e w'=>e = .returned (.bool false)∧w.grownBy w' none:=by
 have HT:=qh (toHome_any n.k ⟨k1,k2⟩)
 have HS:=qh (stamped_any n.k ⟨k1,k2⟩)
 rw [hT] at HT
 rw [hS] at HS
 have c0:=box w n 0 _ rfl
 have c1:=box w n 1 _ rfl
 have c2:=box w n 2 _ rfl
 have c3:=box w n 3 _ rfl
 have c4:=box w n 4 _ rfl
 have c5:=box w n 5 _ rfl
 have c6:=box w n 6 _ rfl
 have c7:=box w n 7 _ rfl
 have hg:=qh (grown_alloc (grown_refl w none) (.cells (na n) 37))
 clear hT hS
 rw [hk] at c0 HT HS
 clear k1 k2 hk
 go_enter Tryz.func152,Tryz.ntmps152
 go_wp2_with (first
  | (go_at_call 174;((with_reducible refine (HT.out _).mono ?_);rintro e w1 ⟨rfl,rfl⟩))
  | (go_at_call 175;((with_reducible refine (HS.out _).mono ?_);rintro e w1 ⟨rfl,rfl⟩)))
 go_ret
 exact ⟨rfl,hg.out⟩
theorem rmay_k9_st (n:Nt) (w:World) (k1:1 ≤ n.k) (k2:n.k ≤ 11) (b1:0 ≤ n.b) (b2:n.b ≤ 255) (hT:tH n.k=true) (hS:sT n.k=false) (hk:n.k=9) (g0:n.t=-1) (g1:0 ≤ n.f) (g2:n.f ≤ 15) (hx:¬ n.st=0):Calls Tryz.prog 152 #[.agg (na n)] w fun e w'=>e = .returned (.bool false)∧w.grownBy w' none:=by
 have HT:=qh (toHome_any n.k ⟨k1,k2⟩)
 have HS:=qh (stamped_any n.k ⟨k1,k2⟩)
 rw [hT] at HT
 rw [hS] at HS
 have c0:=box w n 0 _ rfl
 have c1:=box w n 1 _ rfl
 have c2:=box w n 2 _ rfl
 have c3:=box w n 3 _ rfl
 have c4:=box w n 4 _ rfl
 have c5:=box w n 5 _ rfl
 have c6:=box w n 6 _ rfl
 have c7:=box w n 7 _ rfl
 have hg:=qh (grown_alloc (grown_refl w none) (.cells (na n) 37))
 clear hT hS
 rw [hk] at c0 HT HS
 clear k1 k2 hk
 have hxb:(n.st == 0)=false:=by simpa using hx
 have hxc:(n.st != 0)=true:=by simpa using hx
 go_enter Tryz.func152,Tryz.ntmps152
 go_wp2_with (first
  | (go_at_call 174;((with_reducible refine (HT.out _).mono ?_);rintro e w1 ⟨rfl,rfl⟩))
  | (go_at_call 175;((with_reducible refine (HS.out _).mono ?_);rintro e w1 ⟨rfl,rfl⟩)))
 go_ret
 exact ⟨rfl,hg.out⟩
theorem rmay_k9_s (n:Nt) (w:World) (k1:1 ≤ n.k) (k2:n.k ≤ 11) (b1:0 ≤ n.b) (b2:n.b ≤ 255) (hT:tH n.k=true) (hS:sT n.k=false) (hk:n.k=9) (g0:n.t=-1) (g1:0 ≤ n.f) (g2:n.f ≤ 15) (g3:n.st=0) (hx:¬ n.s=0):Calls Tryz.prog 152 #[.agg (na n)] w fun e w'=>e = .returned (.bool false)∧w.grownBy w' none:=by
 have HT:=qh (toHome_any n.k ⟨k1,k2⟩)
 have HS:=qh (stamped_any n.k ⟨k1,k2⟩)
 rw [hT] at HT
 rw [hS] at HS
 have c0:=box w n 0 _ rfl
 have c1:=box w n 1 _ rfl
 have c2:=box w n 2 _ rfl
 have c3:=box w n 3 _ rfl
 have c4:=box w n 4 _ rfl
 have c5:=box w n 5 _ rfl
 have c6:=box w n 6 _ rfl
 have c7:=box w n 7 _ rfl
 have hg:=qh (grown_alloc (grown_refl w none) (.cells (na n) 37))
 clear hT hS
 rw [hk] at c0 HT HS
 clear k1 k2 hk
 have hxb:(n.s == 0)=false:=by simpa using hx
 have hxc:(n.s != 0)=true:=by simpa using hx
 go_enter Tryz.func152,Tryz.ntmps152
 go_wp2_with (first
  | (go_at_call 174;((with_reducible refine (HT.out _).mono ?_);rintro e w1 ⟨rfl,rfl⟩))
  | (go_at_call 175;((with_reducible refine (HS.out _).mono ?_);rintro e w1 ⟨rfl,rfl⟩)))
 go_ret
 exact ⟨rfl,hg.out⟩
theorem rmay_k9_q (n:Nt) (w:World) (k1:1 ≤ n.k) (k2:n.k ≤ 11) (b1:0 ≤ n.b) (b2:n.b ≤ 255) (hT:tH n.k=true) (hS:sT n.k=false) (hk:n.k=9) (g0:n.t=-1) (g1:0 ≤ n.f) (g2:n.f ≤ 15) (g3:n.st=0) (g4:n.s=0) (hx:n.q=true):Calls Tryz.prog 152 #[.agg (na n)] w fun e w'=>e = .returned (.bool false)∧w.grownBy w' none:=by
 have HT:=qh (toHome_any n.k ⟨k1,k2⟩)
 have HS:=qh (stamped_any n.k ⟨k1,k2⟩)
 rw [hT] at HT
 rw [hS] at HS
 have c0:=box w n 0 _ rfl
 have c1:=box w n 1 _ rfl
 have c2:=box w n 2 _ rfl
 have c3:=box w n 3 _ rfl
 have c4:=box w n 4 _ rfl
 have c5:=box w n 5 _ rfl
 have c6:=box w n 6 _ rfl
 have c7:=box w n 7 _ rfl
 have hg:=qh (grown_alloc (grown_refl w none) (.cells (na n) 37))
 clear hT hS
 rw [hk] at c0 HT HS
 clear k1 k2 hk
 rw [hx] at c7
 go_enter Tryz.func152,Tryz.ntmps152
 go_wp2_with (first
  | (go_at_call 174;((with_reducible refine (HT.out _).mono ?_);rintro e w1 ⟨rfl,rfl⟩))
  | (go_at_call 175;((with_reducible refine (HS.out _).mono ?_);rintro e w1 ⟨rfl,rfl⟩)))
 go_ret
 exact ⟨rfl,hg.out⟩
theorem rmay_k9_end (n:Nt) (w:World) (k1:1 ≤ n.k) (k2:n.k ≤ 11) (b1:0 ≤ n.b) (b2:n.b ≤ 255) (hT:tH n.k=true) (hS:sT n.k=false) (hk:n.k=9) (g0:n.t=-1) (g1:0 ≤ n.f) (g2:n.f ≤ 15) (g3:n.st=0) (g4:n.s=0) (g5:n.q=false) (hx:n.h=true):Calls Tryz.prog 152 #[.agg (na n)] w fun e w'=>e = .returned (.bool true)∧w.grownBy w' none:=by
 have HT:=qh (toHome_any n.k ⟨k1,k2⟩)
 have HS:=qh (stamped_any n.k ⟨k1,k2⟩)
 rw [hT] at HT
 rw [hS] at HS
 have c0:=box w n 0 _ rfl
 have c1:=box w n 1 _ rfl
 have c2:=box w n 2 _ rfl
 have c3:=box w n 3 _ rfl
 have c4:=box w n 4 _ rfl
 have c5:=box w n 5 _ rfl
 have c6:=box w n 6 _ rfl
 have c7:=box w n 7 _ rfl
 have hg:=qh (grown_alloc (grown_refl w none) (.cells (na n) 37))
 clear hT hS
 rw [hk] at c0 HT HS
 clear k1 k2 hk
 rw [g5] at c7
 rw [hx] at c6
 go_enter Tryz.func152,Tryz.ntmps152
 go_wp2_with (first
  | (go_at_call 174;((with_reducible refine (HT.out _).mono ?_);rintro e w1 ⟨rfl,rfl⟩))
  | (go_at_call 175;((with_reducible refine (HS.out _).mono ?_);rintro e w1 ⟨rfl,rfl⟩)))
 go_ret
 exact ⟨rfl,hg.out⟩
theorem rmay_k9_dat (n:Nt) (w:World) (k1:1 ≤ n.k) (k2:n.k ≤ 11) (b1:0 ≤ n.b) (b2:n.b ≤ 255) (hT:tH n.k=true) (hS:sT n.k=false) (hk:n.k=9) (g0:n.t=-1) (g1:0 ≤ n.f) (g2:n.f ≤ 15) (g3:n.st=0) (g4:n.s=0) (g5:n.q=false) (hx:n.h=false):Calls Tryz.prog 152 #[.agg (na n)] w fun e w'=>e = .returned (.bool (decide (n.d=zd)))∧w.grownBy w' none:=by
 have HT:=qh (toHome_any n.k ⟨k1,k2⟩)
 have HS:=qh (stamped_any n.k ⟨k1,k2⟩)
 rw [hT] at HT
 rw [hS] at HS
 have c0:=box w n 0 _ rfl
 have c1:=box w n 1 _ rfl
 have c2:=box w n 2 _ rfl
 have c3:=box w n 3 _ rfl
 have c4:=box w n 4 _ rfl
 have c5:=box w n 5 _ rfl
 have c6:=box w n 6 _ rfl
 have c7:=box w n 7 _ rfl
 have hg:=qh (grown_alloc (grown_refl w none) (.cells (na n) 37))
 clear hT hS
 rw [hk] at c0 HT HS
 clear k1 k2 hk
 rw [g5] at c7
 rw [hx] at c6
 obtain ⟨t,m,HTT,hagg,hsize,hld,hsz,hst⟩:=named29
 have hl1:=hld _ _ n.d n.hd _ (range_d (range_of (heap_alloc_new w (.cells (na n) 37))))
 have hq:=eql29 n.d n.hd
 clear hld hst hsz
 go_enter Tryz.func152,Tryz.ntmps152
 rw [HTT.out.1]
 go_wp2_with (first
  | (go_at_call 174;((with_reducible refine (HT.out _).mono ?_);rintro e w1 ⟨rfl,rfl⟩))
  | (go_at_call 175;((with_reducible refine (HS.out _).mono ?_);rintro e w1 ⟨rfl,rfl⟩)))
 go_ret
 exact ⟨rfl,hg.out⟩
theorem rmay_k9 (n:Nt) (w:World) (k1:1 ≤ n.k) (k2:n.k ≤ 11) (b1:0 ≤ n.b) (b2:n.b ≤ 255) (hT:tH n.k=true) (hS:sT n.k=false) (hk:n.k=9):Calls Tryz.prog 152 #[.agg (na n)] w fun e w'=>e = .returned (.bool (decide (n.Rule true false)))∧w.grownBy w' none:=by
 by_cases x0:¬ n.t=-1
 ·rw [decide_eq_false (fun h=>?_)]
  ·exact rmay_k9_at n w k1 k2 b1 b2 hT hS hk x0
  ·have:=h.at_;simp at this;exact x0 this
 have g0:n.t=-1:=by omega
 by_cases x1:n.f < 0
 ·rw [decide_eq_false (fun h=>?_)]
  ·exact rmay_k9_c0 n w k1 k2 b1 b2 hT hS hk g0 x1
  ·have:=h.core.1;simp at this;omega
 have g1:0 ≤ n.f:=by omega
 by_cases x2:15 < n.f
 ·rw [decide_eq_false (fun h=>?_)]
  ·exact rmay_k9_c1 n w k1 k2 b1 b2 hT hS hk g0 g1 x2
  ·have:=h.core.2;simp at this;omega
 have g2:n.f ≤ 15:=by omega
 by_cases x3:¬ n.st=0
 ·rw [decide_eq_false (fun h=>?_)]
  ·exact rmay_k9_st n w k1 k2 b1 b2 hT hS hk g0 g1 g2 x3
  ·exact x3 (h.st rfl)
 have g3:n.st=0:=by omega
 by_cases x4:¬ n.s=0
 ·rw [decide_eq_false (fun h=>?_)]
  ·exact rmay_k9_s n w k1 k2 b1 b2 hT hS hk g0 g1 g2 g3 x4
  ·exact x4 (h.s0 (by omega))
 have g4:n.s=0:=by omega
 by_cases x5:n.q=true
 ·rw [decide_eq_false (fun h=>?_)]
  ·exact rmay_k9_q n w k1 k2 b1 b2 hT hS hk g0 g1 g2 g3 g4 x5
  ·have:=h.q (by omega);rw [x5] at this;cases this
 have g5:n.q=false:=by simpa using x5
 cases hx:n.h
 ·have:decide (n.Rule true false)=decide (n.d=zd):=by
   by_cases hd:n.d=zd
   ·rw [decide_eq_true hd,decide_eq_true (⟨by simpa using g0,by simp;omega,fun _=>g3,fun h=>by omega,fun _=>g4,fun _=>g5,fun h=>by omega,fun _=>by omega,fun _=>hd⟩)]
   ·rw [decide_eq_false hd,decide_eq_false (fun h=>hd (h.d hx))]
  rw [this]
  exact rmay_k9_dat n w k1 k2 b1 b2 hT hS hk g0 g1 g2 g3 g4 g5 hx
 ·rw [decide_eq_true (⟨by simpa using g0,by simp;omega,fun _=>g3,fun h=>by omega,fun _=>g4,fun _=>g5,fun h=>by omega,fun _=>by omega,fun h=>(by rw [hx] at h;cases h)⟩)]
  exact rmay_k9_end n w k1 k2 b1 b2 hT hS hk g0 g1 g2 g3 g4 g5 hx
theorem rnmay_any (n:Nt) (w:World):Calls Tryz.prog 152 #[.agg (na n)] w fun e w'=>e = .returned (.bool (decide n.ok))∧w.grownBy w' none:=by
 by_cases hk:1 ≤ n.k∧n.k ≤ 11
 ·by_cases hb:0 ≤ n.b∧n.b < 256
  ·have hb2:n.b ≤ 255:=by omega
   have hr:decide n.ok=decide (n.Rule (tH n.k) (sT n.k)):=by
    have h:=rule_ok n hk hb
    by_cases h0:n.ok
    ·rw [decide_eq_true h0,decide_eq_true (h.1 h0)]
    ·rw [decide_eq_false h0,decide_eq_false (fun h1=>h0 (h.2 h1))]
   rw [hr]
   by_cases k3:n.k=3
   ·have hT:tH n.k=true:=by rw [k3];rfl
    have hS:sT n.k=false:=by rw [k3];rfl
    rw [hT,hS]
    exact rmay_k3 n w hk.1 hk.2 hb.1 hb2 hT hS k3
   ·by_cases k6:n.k=6
    ·have hT:tH n.k=false:=by rw [k6];rfl
     have hS:sT n.k=false:=by rw [k6];rfl
     rw [hT,hS]
     exact rmay_k6 n w hk.1 hk.2 hb.1 hb2 hT hS k6
    ·by_cases k9:n.k=9
     ·have hT:tH n.k=true:=by rw [k9];rfl
      have hS:sT n.k=false:=by rw [k9];rfl
      rw [hT,hS]
      exact rmay_k9 n w hk.1 hk.2 hb.1 hb2 hT hS k9
     ·cases hT:tH n.k <;> cases hS:sT n.k
      ·exact rmay_ts n w hk.1 hk.2 hb.1 hb2 hT hS k3 k6 k9
      ·exact rmay_tS n w hk.1 hk.2 hb.1 hb2 hT hS k3 k6 k9
      ·exact rmay_Ts n w hk.1 hk.2 hb.1 hb2 hT hS k3 k6 k9
      ·exact rmay_TS n w hk.1 hk.2 hb.1 hb2 hT hS k3 k6 k9
  ·rw [decide_eq_false (fun h=>hb h.2.1)]
   exact rmay_block n w hk hb
 ·rw [decide_eq_false (fun h=>hk h.1)]
  exact rmay_kind n w hk
end Go.Proofs.YtcoimipgilkmbaaGreatDoor.tt
