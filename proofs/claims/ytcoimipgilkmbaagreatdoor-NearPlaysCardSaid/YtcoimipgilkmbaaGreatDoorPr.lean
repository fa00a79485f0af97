/-
 What the document's own one, May, Data of a plan answer: contracts. No condition but what each theorem names.
-/
import Derived.Test.YtcoimipgilkmbaaGreatDoorTl
import Derived.Test.YtcoimipgilkmbaaGreatDoorPl
namespace Go.Proofs.YtcoimipgilkmbaaGreatDoor.tt
set_option linter.unusedVariables false
set_option linter.unusedSimpArgs false
set_option maxRecDepth 1000000
set_option maxHeartbeats 16000000
open Go Go.ChangeShapes Go.WideShapes Go.ChangeAt Go.RowKit
theorem one_any (x:Int) (xs:List Int) (g len:Nat) (w:World) (hlen:len=xs.length) (hmax:len ≤ 100) (hc:∀ (k:Nat) y,xs[k]?=some y→w.cell? ⟨g,k,none⟩=some (.int .i64 y)) :
  Calls Tryz.prog 106 #[.int .i64 x,.slice (some ⟨g,0,none⟩) len len] w fun e w'=>e = .returned (.bool (decide (x ∈ xs)))∧w=w':=by
 have HL:=qh hlen
 have HC:=qh hc
 clear hlen hc
 go_enter Tryz.func106,Tryz.ntmps106
 go_wp2
 go_loop [5] (fun i=>∃ k:Nat,k ≤ len∧i = .int .i64 (k:Int)∧∀ (j:Nat) y,j < k→xs[j]?=some y→y ≠ x) (fun i=>len - (intOf i).toNat)
 case atStart=>exact ⟨0,Nat.zero_le _,rfl,fun j y hj=>by omega⟩
 case round=>
  obtain ⟨k,hk,rfl,hn⟩:=hrel
  have HN:=qh hn
  clear hn
  by_cases hlt:k < len
  ·obtain ⟨y,hy⟩:∃ y,xs[k]?=some y:=⟨_,List.getElem?_eq_getElem (by rw [← HL.out];exact hlt)⟩
   have c0:=HC.out k y hy
   have HY:=qh hy
   clear hy
   by_cases he:y=x
   ·have HR:Hid (decide (x ∈ xs)=true):=qh (by
     rw [decide_eq_true_eq,← he];exact List.mem_of_getElem? HY.out)
    subst he
    go_wp2
    go_ret
    exact ⟨ret_bool HR.out.symm,rfl⟩
   ·have HE:=qh he
    have hq:(y == x)=false:=by simpa using he
    clear he
    go_wp2
    go_round
    case rel=>exact ⟨k + 1,by omega,by go_num,fun j z hj hz=>by
     by_cases hjk:j < k
     ·exact HN.out j z hjk hz
     ·obtain rfl:j=k:=by omega
      rw [HY.out] at hz;cases hz;exact HE.out⟩
    case measure=>simp [intOf];omega
  ·have HR:Hid (decide (x ∈ xs)=false):=qh (by
    rw [decide_eq_false_iff_not];intro hm
    obtain ⟨j,hj,hjx⟩:=List.mem_iff_getElem.1 hm
    exact HN.out j x (by have:=HL.out;omega) (by rw [List.getElem?_eq_getElem hj,hjx]) rfl)
   go_wp2
   go_ret
   exact ⟨ret_bool HR.out.symm,rfl⟩
def Cfg.rmay (c:Cfg):Prop:=(1 ≤ c.co∧c.co ≤ 16)∧(1 ≤ c.bl∧c.bl ≤ 256)∧(1 ≤ c.lo∧c.lo ≤ 4)∧(1 ≤ c.ba∧c.ba ≤ 4)∧(1 ≤ c.ne∧c.ne ≤ 8)∧(0 ≤ c.tr∧c.tr ≤ 8)∧c.se ∈ [1,2,4,8,16]∧c.wa ∈ [1,2,4]∧c.co * c.lo < c.bl
instance (c:Cfg):Decidable c.rmay:=by unfold Cfg.rmay;infer_instance
theorem hb_plain (l m x:Int):hb l m false x=true ↔ l ≤ x∧x ≤ m:=by unfold hb;simp
theorem hb_power:∀ n:Nat,n ≤ 16→(bits .and .i64 (n:Int) ((n:Int) - 1)=0 ↔ n ∈ [0,1,2,4,8,16]):=by decide +kernel
theorem hb_sets (x:Int):hb 1 16 true x=true ↔ x ∈ [1,2,4,8,16]:=by
 constructor
 ·intro h
  have hbo:=hb_bounds h
  obtain ⟨n,rfl⟩:∃ n:Nat,x=(n:Int):=⟨x.toNat,by omega⟩
  unfold hb at h
  simp at h
  have:=(hb_power n (by omega)).1 h.2
  simp at this ⊢
  omega
 ·intro h
  simp at h
  rcases h with rfl | rfl | rfl | rfl | rfl <;> decide +kernel
theorem hb_ways (x:Int):hb 1 4 true x=true ↔ x ∈ [1,2,4]:=by
 constructor
 ·intro h
  have hbo:=hb_bounds h
  obtain ⟨n,rfl⟩:∃ n:Nat,x=(n:Int):=⟨x.toNat,by omega⟩
  unfold hb at h
  simp at h
  have:=(hb_power n (by omega)).1 h.2
  simp at this ⊢
  omega
 ·intro h
  simp at h
  rcases h with rfl | rfl | rfl <;> decide +kernel
theorem may_iff (c:Cfg):c.may ↔ c.rmay:=by
 unfold Cfg.may Cfg.rmay
 constructor
 ·rintro ⟨h,hd⟩
  refine ⟨(hb_plain _ _ _).1 (h 0 (by omega)),(hb_plain _ _ _).1 (h 3 (by omega)),(hb_plain _ _ _).1 (h 4 (by omega)),(hb_plain _ _ _).1 (h 5 (by omega)),(hb_plain _ _ _).1 (h 6 (by omega)),(hb_plain _ _ _).1 (h 7 (by omega)),(hb_sets _).1 (h 1 (by omega)),(hb_ways _).1 (h 2 (by omega)),?_⟩
  unfold Cfg.data at hd;omega
 ·rintro ⟨h0,h3,h4,h5,h6,h7,h1,h2,hd⟩
  refine ⟨fun i hi=>?_,by unfold Cfg.data;omega⟩
  match i,hi with
  | 0,_=>exact (hb_plain _ _ _).2 h0
  | 1,_=>exact (hb_sets _).2 h1
  | 2,_=>exact (hb_ways _).2 h2
  | 3,_=>exact (hb_plain _ _ _).2 h3
  | 4,_=>exact (hb_plain _ _ _).2 h4
  | 5,_=>exact (hb_plain _ _ _).2 h5
  | 6,_=>exact (hb_plain _ _ _).2 h6
  | 7,_=>exact (hb_plain _ _ _).2 h7
theorem list_at (w:World) (t:TypeId) (xs:List Int) (k:Nat) (y:Int) (h:xs[k]?=some y):(w.alloc (.cells (xs.map (Value.int .i64)).toArray t)).cell? ⟨w.heap.size,k,none⟩=some (.int .i64 y):=
 (cell_of_row _ _ _ _ _ _ (heap_alloc_new _ _)).trans (by simp [h])
theorem rmay_out (c:Cfg) (w:World) (h:¬ ((1 ≤ c.co∧c.co ≤ 16)∧(1 ≤ c.bl∧c.bl ≤ 256)∧(1 ≤ c.lo∧c.lo ≤ 4)∧(1 ≤ c.ba∧c.ba ≤ 4)∧(1 ≤ c.ne∧c.ne ≤ 8)∧(0 ≤ c.tr∧c.tr ≤ 8))) :
  Calls Tryz.prog 64 #[.agg c.cells] w fun e w'=>e = .returned (.bool false)∧w.grownBy w' none:=by
 unfold Cfg.cells
 by_cases h0:c.co < 1
 ·clear h
  go_enter Tryz.func64,Tryz.ntmps64
  go_wp2
  go_ret
  exact ⟨rfl,grown_alloc (grown_refl _ _) _⟩
 by_cases h1:16 < c.co
 ·clear h
  go_enter Tryz.func64,Tryz.ntmps64
  go_wp2
  go_ret
  exact ⟨rfl,grown_alloc (grown_refl _ _) _⟩
 by_cases h2:c.bl < 1
 ·clear h
  go_enter Tryz.func64,Tryz.ntmps64
  go_wp2
  go_ret
  exact ⟨rfl,grown_alloc (grown_refl _ _) _⟩
 by_cases h3:256 < c.bl
 ·clear h
  go_enter Tryz.func64,Tryz.ntmps64
  go_wp2
  go_ret
  exact ⟨rfl,grown_alloc (grown_refl _ _) _⟩
 by_cases h4:c.lo < 1
 ·clear h
  go_enter Tryz.func64,Tryz.ntmps64
  go_wp2
  go_ret
  exact ⟨rfl,grown_alloc (grown_refl _ _) _⟩
 by_cases h5:4 < c.lo
 ·clear h
  go_enter Tryz.func64,Tryz.ntmps64
  go_wp2
  go_ret
  exact ⟨rfl,grown_alloc (grown_refl _ _) _⟩
 by_cases h6:c.ba < 1
 ·clear h
  go_enter Tryz.func64,Tryz.ntmps64
  go_wp2
  go_ret
  exact ⟨rfl,grown_alloc (grown_refl _ _) _⟩
 by_cases h7:4 < c.ba
 ·clear h
  go_enter Tryz.func64,Tryz.ntmps64
  go_wp2
  go_ret
  exact ⟨rfl,grown_alloc (grown_refl _ _) _⟩
 by_cases h8:c.ne < 1
 ·clear h
  go_enter Tryz.func64,Tryz.ntmps64
  go_wp2
  go_ret
  exact ⟨rfl,grown_alloc (grown_refl _ _) _⟩
 by_cases h9:8 < c.ne
 ·clear h
  go_enter Tryz.func64,Tryz.ntmps64
  go_wp2
  go_ret
  exact ⟨rfl,grown_alloc (grown_refl _ _) _⟩
 by_cases h10:c.tr < 0
 ·clear h
  go_enter Tryz.func64,Tryz.ntmps64
  go_wp2
  go_ret
  exact ⟨rfl,grown_alloc (grown_refl _ _) _⟩
 by_cases h11:8 < c.tr
 ·clear h
  go_enter Tryz.func64,Tryz.ntmps64
  go_wp2
  go_ret
  exact ⟨rfl,grown_alloc (grown_refl _ _) _⟩
 exact absurd ⟨⟨by omega,by omega⟩,⟨by omega,by omega⟩,⟨by omega,by omega⟩,⟨by omega,by omega⟩,⟨by omega,by omega⟩,⟨by omega,by omega⟩⟩ h
theorem rmay_in (c:Cfg) (w:World) (h:(1 ≤ c.co∧c.co ≤ 16)∧(1 ≤ c.bl∧c.bl ≤ 256)∧(1 ≤ c.lo∧c.lo ≤ 4)∧(1 ≤ c.ba∧c.ba ≤ 4)∧(1 ≤ c.ne∧c.ne ≤ 8)∧(0 ≤ c.tr∧c.tr ≤ 8)) :
  Calls Tryz.prog 64 #[.agg c.cells] w fun e w'=>e = .returned (.bool (decide (c.se ∈ [1,2,4,8,16]∧c.wa ∈ [1,2,4]∧c.co * c.lo < c.bl)))∧w.grownBy w' none:=by
 obtain ⟨⟨a0,b0⟩,⟨a1,b1⟩,⟨a2,b2⟩,⟨a3,b3⟩,⟨a4,b4⟩,⟨a5,b5⟩⟩:=h
 have hmul:=Cfg.Fits.mul (c:=c) ⟨⟨a0,b0⟩,⟨a2,b2⟩,⟨a1,b1⟩⟩
 obtain ⟨m0,m1⟩:=hmul
 have e1:(w.alloc (.cells c.cells 27)).heap.size=w.heap.size + 1:=by simp
 have e2:((w.alloc (.cells c.cells 27)).alloc (.cells #[.int .i64 1,.int .i64 2,.int .i64 4,.int .i64 8,.int .i64 16] 3)).heap.size=w.heap.size + 2:=by simp
 have HA:=qh (cfg_at w c)
 have g1:(w.alloc (.cells c.cells 27)).grownBy ((w.alloc (.cells c.cells 27)).alloc (.cells #[.int .i64 1,.int .i64 2,.int .i64 4,.int .i64 8,.int .i64 16] 3)) none:=grown_alloc (grown_refl _ _) _
 have g2:(w.alloc (.cells c.cells 27)).grownBy (((w.alloc (.cells c.cells 27)).alloc (.cells #[.int .i64 1,.int .i64 2,.int .i64 4,.int .i64 8,.int .i64 16] 3)).alloc (.cells #[.int .i64 1,.int .i64 2,.int .i64 4] 3)) none:=grown_alloc g1 _
 have HG1:Hid (w.grownBy ((w.alloc (.cells c.cells 27)).alloc (.cells #[.int .i64 1,.int .i64 2,.int .i64 4,.int .i64 8,.int .i64 16] 3)) none):=qh (grown_alloc (grown_alloc (grown_refl _ _) _) _)
 have HG2:Hid (w.grownBy (((w.alloc (.cells c.cells 27)).alloc (.cells #[.int .i64 1,.int .i64 2,.int .i64 4,.int .i64 8,.int .i64 16] 3)).alloc (.cells #[.int .i64 1,.int .i64 2,.int .i64 4] 3)) none):=qh (grown_alloc HG1.out _)
 have HA1:=qh (HA.out.grown g1)
 have HA2:=qh (HA.out.grown g2)
 have l1:∀ (k:Nat) y,[1,2,4,8,16][k]?=some y→((w.alloc (.cells c.cells 27)).alloc (.cells #[.int .i64 1,.int .i64 2,.int .i64 4,.int .i64 8,.int .i64 16] 3)).cell? ⟨w.heap.size + 1,k,none⟩=some (.int .i64 y):=fun k y h=>by
  rw [← e1];exact list_at _ 3 [1,2,4,8,16] k y h
 have l2:∀ (k:Nat) y,[1,2,4][k]?=some y→(((w.alloc (.cells c.cells 27)).alloc (.cells #[.int .i64 1,.int .i64 2,.int .i64 4,.int .i64 8,.int .i64 16] 3)).alloc (.cells #[.int .i64 1,.int .i64 2,.int .i64 4] 3)).cell? ⟨w.heap.size + 2,k,none⟩=some (.int .i64 y):=fun k y h=>by
  rw [← e2];exact list_at _ 3 [1,2,4] k y h
 have H1:=qh (one_any c.se [1,2,4,8,16] (w.heap.size + 1) 5 _ rfl (by omega) l1)
 have H2:=qh (one_any c.wa [1,2,4] (w.heap.size + 2) 3 _ rfl (by omega) l2)
 have f0:decide (c.co < 1)=false:=by simp;omega
 have f1:decide (16 < c.co)=false:=by simp;omega
 have f2:decide (c.bl < 1)=false:=by simp;omega
 have f3:decide (256 < c.bl)=false:=by simp;omega
 have f4:decide (c.lo < 1)=false:=by simp;omega
 have f5:decide (4 < c.lo)=false:=by simp;omega
 have f6:decide (c.ba < 1)=false:=by simp;omega
 have f7:decide (4 < c.ba)=false:=by simp;omega
 have f8:decide (c.ne < 1)=false:=by simp;omega
 have f9:decide (8 < c.ne)=false:=by simp;omega
 have f10:decide (c.tr < 0)=false:=by simp;omega
 have f11:decide (8 < c.tr)=false:=by simp;omega
 clear a0 b0 a1 b1 a2 b2 a3 b3 a4 b4 a5 b5 e1 e2 g1 g2 l1 l2
 unfold Cfg.cells at *
 obtain ⟨p,hp⟩:∃ p,p=decide (c.se ∈ [1,2,4,8,16]):=⟨_,rfl⟩
 obtain ⟨q,hq⟩:∃ q,q=decide (c.wa ∈ [1,2,4]):=⟨_,rfl⟩
 have HR:Hid (decide (c.se ∈ [1,2,4,8,16]∧c.wa ∈ [1,2,4]∧c.co * c.lo < c.bl)=(p && (q && decide (c.co * c.lo < c.bl)))):=qh (by rw [hp,hq];simp only [Bool.decide_and])
 rw [← hp] at H1
 rw [← hq] at H2
 clear hp hq
 cases p
 ·go_enter Tryz.func64,Tryz.ntmps64
  go_wp2_with (first
   | (go_at_call 106;((with_reducible refine H1.out.mono ?_);rintro e w' ⟨rfl,rfl⟩)))
  go_ret
  exact ⟨ret_bool HR.out.symm,HG1.out⟩
 ·cases q
  ·go_enter Tryz.func64,Tryz.ntmps64
   go_wp2_with (first
    | (go_at_call 106;((with_reducible refine H1.out.mono ?_);rintro e w' ⟨rfl,rfl⟩;obtain ⟨c0,c1,c2,c3,c4,c5,c6,c7⟩:=HA1.out))
    | (go_at_call 106;((with_reducible refine H2.out.mono ?_);rintro e w' ⟨rfl,rfl⟩)))
   go_ret
   exact ⟨ret_bool HR.out.symm,HG2.out⟩
  ·go_enter Tryz.func64,Tryz.ntmps64
   go_wp2_with (first
    | (go_at_call 106;((with_reducible refine H1.out.mono ?_);rintro e w' ⟨rfl,rfl⟩;obtain ⟨c0,c1,c2,c3,c4,c5,c6,c7⟩:=HA1.out))
    | (go_at_call 106;((with_reducible refine H2.out.mono ?_);rintro e w' ⟨rfl,rfl⟩;obtain ⟨d0,d1,d2,d3,d4,d5,d6,d7⟩:=HA2.out)))
   go_ret
   exact ⟨ret_bool HR.out.symm,HG2.out⟩
theorem rmay_any (c:Cfg) (w:World):Calls Tryz.prog 64 #[.agg c.cells] w fun e w'=>e = .returned (.bool (decide c.may))∧w.grownBy w' none:=by
 have e:decide c.may=decide c.rmay:=by rw [decide_eq_decide];exact may_iff c
 rw [e]
 by_cases h:(1 ≤ c.co∧c.co ≤ 16)∧(1 ≤ c.bl∧c.bl ≤ 256)∧(1 ≤ c.lo∧c.lo ≤ 4)∧(1 ≤ c.ba∧c.ba ≤ 4)∧(1 ≤ c.ne∧c.ne ≤ 8)∧(0 ≤ c.tr∧c.tr ≤ 8)
 ·have e2:decide c.rmay=decide (c.se ∈ [1,2,4,8,16]∧c.wa ∈ [1,2,4]∧c.co * c.lo < c.bl):=by
   rw [decide_eq_decide]
   unfold Cfg.rmay
   obtain ⟨h0,h1,h2,h3,h4,h5⟩:=h
   exact ⟨fun ⟨_,_,_,_,_,_,h⟩=>h,fun hh=>⟨h0,h1,h2,h3,h4,h5,hh⟩⟩
  rw [e2]
  exact rmay_in c w h
 ·have e2:decide c.rmay=false:=decide_eq_false fun ⟨h0,h1,h2,h3,h4,h5,_⟩=>h ⟨h0,h1,h2,h3,h4,h5⟩
  rw [e2]
  exact rmay_out c w h
theorem rdata_any (c:Cfg) (w:World) (h:c.Fits):Calls Tryz.prog 31 #[.agg c.cells] w fun e w'=>e = .returned (.int .i64 c.data)∧w.grownBy w' none:=by
 obtain ⟨h0,h4⟩:=h.mul
 obtain ⟨h1,h2,h3⟩:=h
 unfold Cfg.cells Cfg.data
 go_enter Tryz.func31,Tryz.ntmps31
 go_wp2
 go_ret
 exact ⟨rfl,grown_alloc (grown_refl _ _) _⟩
end Go.Proofs.YtcoimipgilkmbaaGreatDoor.tt
