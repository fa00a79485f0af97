/-
 The plain mathematics of sets of numbers below 32 as bits of a number: which are in it, how many, the least one. No condition but the bounds that each theorem names.
 What the functions of package mask that take single numbers answer, and those of the document's own beside them: contracts. No condition beyond the bounds that each theorem names.
 How many are in a set, and the least one, as math/bits counts them: contracts. No condition beyond the bounds that each theorem names, and that the library's table lies in its variable.
 Who goes over a set is told its numbers, rising, until a round says 'no more'; List makes the row of them: contracts. No condition beyond that the set has 32 bits and that the library's table lies in its variable.
 The set of a list, the document's own set and list, the equality of two lists, and what each statement asks first: contracts. No condition beyond the bounds that each theorem names and that the library's table lies in its variable.
-/
import Derived.Test.YtenhdijbcdkfbaaGreatDoorTl
import Derived.Lib.TrailingZeros
import Derived.Lib.BitFns
import Derived.Test.YtenhdijbcdkfbaaGreatDoorRows
import Derived.WalkKit
import Derived.ProofKit
import Derived.OpenShut
import Derived.WalkLawsBesides
import Derived.Handy
import Derived.Laws.BitsAllLaws
import Derived.Lib.Hide
import Derived.LoopTactic
import Derived.Outline
import Derived.Deep.QuietTactic
import Derived.BigQuiet
import Derived.Lib.Walk
import Derived.RangeFuncBox
import Derived.RangeFuncLeaves
import Derived.Shelf.Abstract
import Derived.OwnWalkIn
import Derived.TacticsInMore
import Derived.LoopNIn
import Derived.LoopIn
import Derived.Maps.AppendAt
namespace Go.Proofs.YtenhdijbcdkfbaaGreatDoor.mm
set_option linter.unusedVariables false
set_option linter.unusedSimpArgs false
set_option maxRecDepth 1000000
set_option maxHeartbeats 16000000
open Go
def ones (m:Nat):List Nat:=(List.range 32).filter (fun i=>m.testBit i)
def pop (m:Nat):Nat→Nat
 | 0=>0
 | n + 1=>pop m n + (m.testBit n).toNat
theorem pop_len (m:Nat):∀ n,((List.range n).filter (fun i=>m.testBit i)).length=pop m n
 | 0=>rfl
 | n + 1=>by
  rw [List.range_succ,List.filter_append,List.length_append,pop_len m n]
  show _=pop m n + (m.testBit n).toNat
  cases h:m.testBit n <;> simp [h]
theorem ones_len (m:Nat):(ones m).length=pop m 32:=pop_len m 32
theorem pop_add (m a:Nat):∀ b,pop m (a + b)=pop m a + pop (m / 2 ^ a) b
 | 0=>rfl
 | b + 1=>by
  show pop m (a + b) + (m.testBit (a + b)).toNat=pop m a + (pop (m / 2 ^ a) b + ((m / 2 ^ a).testBit b).toNat)
  rw [pop_add m a b,Nat.testBit_div_two_pow,Nat.add_comm b a];omega
theorem pop_mod (m a:Nat):∀ n,n ≤ a→pop (m % 2 ^ a) n=pop m n
 | 0,_=>rfl
 | n + 1,h=>by
  show pop (m % 2 ^ a) n + _=pop m n + _
  rw [pop_mod m a n (by omega),Nat.testBit_mod_two_pow]
  simp [show n < a by omega]
theorem pop_le (m:Nat):∀ n,pop m n ≤ n
 | 0=>Nat.le_refl _
 | n + 1=>by
  have:=pop_le m n
  show pop m n + (m.testBit n).toNat ≤ n + 1
  cases m.testBit n <;> simp <;> omega
theorem pop8:∀ b:Fin 256,Lib.onesCount b.val=pop b.val 8:=by decide +kernel
theorem pop_bytes (m:Nat):pop m 32=Lib.onesCount (m / 16777216 % 256) + Lib.onesCount (m / 65536 % 256) + Lib.onesCount (m / 256 % 256) + Lib.onesCount (m % 256):=by
 have h:∀ x,Lib.onesCount (x % 256)=pop x 8:=fun x=>by
  rw [pop8 ⟨x % 256,Nat.mod_lt _ (by decide)⟩];exact pop_mod x 8 8 (Nat.le_refl _)
 rw [h,h,h,h]
 have e1:=pop_add m 8 24
 have e2:=pop_add (m / 2 ^ 8) 8 16
 have e3:=pop_add (m / 2 ^ 8 / 2 ^ 8) 8 8
 rw [Nat.div_div_eq_div_mul] at e2 e3
 rw [Nat.div_div_eq_div_mul] at e3
 simp only [Nat.reduceAdd,Nat.reducePow,Nat.reduceMul] at e1 e2 e3
 omega
theorem range_at (k:Nat) (hk:k < 32):List.range 32=List.range k ++ k :: List.range' (k + 1) (31 - k):=by
 rw [List.range_eq_range',List.range_eq_range']
 have h1:List.range' k (32 - k)=k :: List.range' (k + 1) (31 - k):=by
  rw [show 32 - k=(31 - k) + 1 by omega,List.range'_succ]
 rw [← h1]
 have:=List.range'_append (s:=0) (m:=k) (n:=32 - k) (step:=1)
 rw [show k + (32 - k)=32 by omega] at this
 rw [← this];simp
theorem filter_none {α:Type} {p:α→Bool} {l:List α} (h:∀ x ∈ l,p x=false):l.filter p=[]:=by
 rw [List.filter_eq_nil_iff];intro x hx;simp [h x hx]
theorem filter_same {α:Type} {p q:α→Bool} {l:List α} (h:∀ x ∈ l,p x=q x):l.filter p=l.filter q:=List.filter_congr h
theorem ones_cons (m:Nat) (h0:0 < m) (h:m < 4294967296):ones m=Lib.ctz 32 m :: ones (m &&& (m - 1))∧Lib.ctz 32 m < 32∧m &&& (m - 1) < 4294967296:=by
 have hz:Lib.ctz 32 m=Lib.ctzFrom 32 m:=by unfold Lib.ctz;rw [if_neg (by omega)]
 obtain ⟨q,hq,hk⟩:=Lib.ctzFrom_spec 32 m h0 h
 rw [← hz] at hq hk
 obtain ⟨k,hkk⟩:∃ k,k=Lib.ctz 32 m:=⟨_,rfl⟩
 rw [← hkk] at hq hk ⊢
 have hp:0 < 2 ^ k:=Nat.two_pow_pos k
 have hm:m=2 ^ k * (2 * q + 1) + 0:=by omega
 have hm1:m - 1=2 ^ k * (2 * q) + (2 ^ k - 1):=by rw [hq,Nat.mul_add];omega
 have t1:∀ i,m.testBit i=if i < k then false else (2 * q + 1).testBit (i - k):=fun i=>by
  rw [hm,Nat.testBit_two_pow_mul_add _ (by omega)];split <;> simp
 have t2:∀ i,(m - 1).testBit i=if i < k then true else (2 * q).testBit (i - k):=fun i=>by
  rw [hm1,Nat.testBit_two_pow_mul_add _ (by omega)]
  by_cases hik:i < k
  ·rw [if_pos hik,if_pos hik,Nat.testBit_two_pow_sub_one];simp [hik]
  ·rw [if_neg hik,if_neg hik]
 have t3:∀ i,(m &&& (m - 1)).testBit i=if i ≤ k then false else m.testBit i:=fun i=>by
  rw [Nat.testBit_and,t1,t2]
  rcases Nat.lt_trichotomy i k with hl | hl | hl
  ·rw [if_pos hl,if_pos hl,if_pos (by omega)];rfl
  ·subst hl;rw [if_neg (by omega),if_neg (by omega),if_pos (by omega)];simp
  ·rw [if_neg (by omega),if_neg (by omega),if_neg (by omega)]
   obtain ⟨j,rfl⟩:∃ j,i=k + (j + 1):=⟨i - k - 1,by omega⟩
   rw [show k + (j + 1) - k=j + 1 by omega,Nat.testBit_succ,Nat.testBit_succ,show (2 * q + 1) / 2=q by omega,show (2 * q) / 2=q by omega];simp
 refine ⟨?_,hk,Nat.lt_of_le_of_lt Nat.and_le_left h⟩
 unfold ones
 rw [range_at k hk,List.filter_append,List.filter_append,List.filter_cons,List.filter_cons]
 rw [filter_none (p:=fun i=>m.testBit i) (l:=List.range k) (fun x hx=>by rw [List.mem_range] at hx;rw [t1,if_pos hx])]
 rw [filter_none (p:=fun i=>(m &&& (m - 1)).testBit i) (l:=List.range k) (fun x hx=>by rw [List.mem_range] at hx;rw [t3,if_pos (by omega)])]
 rw [if_pos (by rw [t1,if_neg (by omega)];simp),if_neg (by rw [t3,if_pos (by omega)];simp)]
 rw [filter_same (p:=fun i=>(m &&& (m - 1)).testBit i) (q:=fun i=>m.testBit i) (l:=List.range' (k + 1) (31 - k)) (fun x hx=>by
  have:=List.mem_range'_1.1 hx;rw [t3,if_neg (by omega)])]
 rfl
theorem ones_zero:ones 0=[]:=by unfold ones;exact filter_none (fun x _=>by simp)
theorem or_add (m n:Nat) (h:m.testBit n=false):m ||| 2 ^ n=m + 2 ^ n:=by
 have hp:0 < 2 ^ n:=Nat.two_pow_pos n
 have h1:m / 2 ^ n % 2=0:=by
  rw [Nat.testBit_eq_decide_div_mod_eq] at h;simp at h;omega
 have hd:=Nat.div_add_mod m (2 ^ n)
 have hlt:=Nat.mod_lt m hp
 obtain ⟨a,ha⟩:∃ a,m / 2 ^ n=2 * a:=⟨m / 2 ^ n / 2,by omega⟩
 rw [ha] at hd
 obtain ⟨b,hb⟩:∃ b,m % 2 ^ n=b:=⟨_,rfl⟩
 rw [hb] at hd hlt
 have hs:m + 2 ^ n=2 ^ n * (2 * a + 1) + b:=by rw [← hd,Nat.mul_add];omega
 rw [hs,← hd]
 apply Nat.eq_of_testBit_eq
 intro j
 rw [Nat.testBit_or,Nat.testBit_two_pow_mul_add _ hlt,Nat.testBit_two_pow_mul_add _ hlt,Nat.testBit_two_pow]
 rcases Nat.lt_trichotomy j n with hl | hl | hl
 ·rw [if_pos hl,if_pos hl];simp;omega
 ·subst hl;rw [if_neg (by omega),if_neg (by omega)];simp
 ·rw [if_neg (by omega),if_neg (by omega)]
  obtain ⟨i,rfl⟩:∃ i,j=n + (i + 1):=⟨j - n - 1,by omega⟩
  rw [show n + (i + 1) - n=i + 1 by omega,Nat.testBit_succ,Nat.testBit_succ,show (2 * a + 1) / 2=a by omega,show (2 * a) / 2=a by omega];simp
theorem or_has (m n:Nat) (h:m.testBit n=true):m ||| 2 ^ n=m:=by
 apply Nat.eq_of_testBit_eq
 intro j
 rw [Nat.testBit_or,Nat.testBit_two_pow]
 by_cases e:n=j
 ·subst e;simp [h]
 ·simp [e]
theorem anot_bit (m n j:Nat) (hm:m < 4294967296) (hn:n < 32):(m &&& (4294967295 - 2 ^ n)).testBit j=(m.testBit j && !decide (n=j)):=by
 have hp:2 ^ n < 2 ^ 32:=Nat.pow_lt_pow_right (by decide) hn
 rw [Nat.testBit_and,show 4294967295 - 2 ^ n=2 ^ 32 - (2 ^ n + 1) by omega,Nat.testBit_two_pow_sub_succ hp,Nat.testBit_two_pow]
 by_cases hj:j < 32
 ·simp [hj]
 ·have:m.testBit j=false:=Nat.testBit_lt_two_pow (Nat.lt_of_lt_of_le hm (by
   show 2 ^ 32 ≤ 2 ^ j;exact Nat.pow_le_pow_right (by decide) (by omega)))
  simp [this]
theorem anot_sub (m n:Nat) (hm:m < 4294967296) (hn:n < 32) (h:m.testBit n=true):m &&& (4294967295 - 2 ^ n)=m - 2 ^ n:=by
 obtain ⟨r,hr⟩:∃ r,r=m &&& (4294967295 - 2 ^ n):=⟨_,rfl⟩
 have hb:r.testBit n=false:=by rw [hr,anot_bit m n n hm hn];simp
 have ho:=or_add r n hb
 have:r ||| 2 ^ n=m:=by
  apply Nat.eq_of_testBit_eq
  intro j
  rw [Nat.testBit_or,Nat.testBit_two_pow,hr,anot_bit m n j hm hn]
  by_cases e:n=j
  ·subst e;simp [h]
  ·simp [e]
 rw [← hr];omega
theorem anot_has (m n:Nat) (hm:m < 4294967296) (hn:n < 32) (h:m.testBit n=false):m &&& (4294967295 - 2 ^ n)=m:=by
 apply Nat.eq_of_testBit_eq
 intro j
 rw [anot_bit m n j hm hn]
 by_cases e:n=j
 ·subst e;simp [h]
 ·simp [e]
theorem and_bit (m n:Nat):(m &&& 2 ^ n)=if m.testBit n then 2 ^ n else 0:=by
 apply Nat.eq_of_testBit_eq
 intro j
 rw [Nat.testBit_and,Nat.testBit_two_pow]
 by_cases e:n=j
 ·subst e;cases h:m.testBit n <;> simp
 ·cases h:m.testBit n <;> simp [e]
end Go.Proofs.YtenhdijbcdkfbaaGreatDoor.mm
namespace Go.Proofs.YtenhdijbcdkfbaaGreatDoor.mm
set_option linter.unusedVariables false
set_option linter.unusedSimpArgs false
set_option maxRecDepth 1000000
set_option maxHeartbeats 16000000
open Go Go.ChangeShapes Go.WideShapes Go.ChangeAt Go.RowKit
theorem may_in (n:Int) (w:World) (h0:0 ≤ n) (h1:n < 32):Calls Tryz.prog 90 #[.int .i64 n] w fun e w'=>e = .returned (.bool true)∧w=w':=by
 go_enter Tryz.func90,Tryz.ntmps90
 go_wp2
 go_ret
 exact ⟨rfl,rfl⟩
theorem may_out (n:Int) (w:World) (h:n < 0 ∨ 32 ≤ n):Calls Tryz.prog 90 #[.int .i64 n] w fun e w'=>e = .returned (.bool false)∧w=w':=by
 by_cases h0:0 ≤ n
 ·have h1:decide (n < 32)=false:=by simp;omega
  clear h
  go_enter Tryz.func90,Tryz.ntmps90
  go_wp2
  go_ret
  exact ⟨rfl,rfl⟩
 ·clear h
  go_enter Tryz.func90,Tryz.ntmps90
  go_wp2
  go_ret
  exact ⟨rfl,rfl⟩
theorem ret_u32 {a b:Int} (h:a=b):Ending.returned (.int .u32 a)=Ending.returned (.int .u32 b):=by rw [h]
theorem ret_i64 {a b:Int} (h:a=b):Ending.returned (.int .i64 a)=Ending.returned (.int .i64 b):=by rw [h]
theorem ret_bool {a b:Bool} (h:a=b):Ending.returned (.bool a)=Ending.returned (.bool b):=by rw [h]
theorem pow_lt (n:Nat) (h:n < 32):0 < 2 ^ n∧2 ^ n ≤ 2147483648:=⟨Nat.two_pow_pos n,by show 2 ^ n ≤ 2 ^ 31;exact Nat.pow_le_pow_right (by decide) (by omega)⟩
theorem only_in (n:Nat) (p:Nat) (w:World) (h1:n < 32) (hp:p=2 ^ n):Calls Tryz.prog 62 #[.int .i64 (n:Int)] w fun e w'=>e = .returned (.int .u32 (p:Int))∧w=w':=by
 have hq:=qh (may_in n w (by omega) (by omega))
 have HP:=qh hp
 clear hp
 go_enter Tryz.func62,Tryz.ntmps62
 go_wp2_with (go_at_call 90;((with_reducible refine hq.out.mono ?_);rintro e w' ⟨rfl,rfl⟩))
 go_ret
 have hb:=pow_lt n h1
 rw [← HP.out] at hb
 refine ⟨ret_u32 ?_,rfl⟩
 have e:((2 ^ n:Nat):Int)=(2:Int) ^ n:=by simp
 rw [← e,← HP.out];omega
theorem only_out (n:Int) (w:World) (h:n < 0 ∨ 32 ≤ n):Calls Tryz.prog 62 #[.int .i64 n] w fun e w'=>e = .returned (.int .u32 0)∧w=w':=by
 have hq:=qh (may_out n w h)
 clear h
 go_enter Tryz.func62,Tryz.ntmps62
 go_wp2_with (go_at_call 90;((with_reducible refine hq.out.mono ?_);rintro e w' ⟨rfl,rfl⟩))
 go_ret
 exact ⟨rfl,rfl⟩
theorem power_any (n p:Nat) (w:World) (h:n < 32) (hp:p=2 ^ n):Calls Tryz.prog 64 #[.int .i64 (n:Int)] w fun e w'=>e = .returned (.int .u32 (p:Int))∧w=w':=by
 have HP:=qh hp
 clear hp
 go_enter Tryz.func64,Tryz.ntmps64
 go_wp2
 go_loop [3,4] (fun x i=>∃ k:Nat,k ≤ n∧i = .int .i64 (k:Int)∧∃ y:Nat,y=2 ^ k∧x = .int .u32 (y:Int)) (fun _ i=>n - (intOf i).toNat)
 case atStart=>exact ⟨0,Nat.zero_le _,rfl,1,rfl,rfl⟩
 case round=>
  obtain ⟨k,hk,rfl,x,hx,rfl⟩:=hrel
  by_cases hlt:k < n
  ·have hp:x * 2 ≤ 4294967295:=by
    have:2 ^ (k + 1) < 2 ^ 32:=Nat.pow_lt_pow_right (by decide) (by omega)
    rw [Nat.pow_succ] at this;omega
   have HX:=qh hx
   clear hx
   go_wp2
   go_round
   case rel=>exact ⟨k + 1,by omega,by go_num,2 * x,by rw [Nat.pow_succ,← HX.out];omega,by go_num⟩
   case measure=>simp [intOf];omega
  ·have hkn:k=n:=by omega
   subst hkn
   have HX:=qh (hx.trans HP.out.symm)
   clear hx
   go_wp2
   go_ret
   exact ⟨ret_u32 (by rw [HX.out]),rfl⟩
theorem with_in (m n:Nat) (w:World) (hm:m < 4294967296) (h1:n < 32):Calls Tryz.prog 101 #[.int .u32 (m:Int),.int .i64 (n:Int)] w fun e w'=>e = .returned (.int .u32 ((m ||| 2 ^ n:Nat):Int))∧w=w':=by
 obtain ⟨p,hp⟩:∃ p,p=2 ^ n:=⟨_,rfl⟩
 have hq:=qh (only_in n p w h1 hp)
 have hb:=pow_lt n h1
 rw [← hp] at hb ⊢
 clear hp
 go_enter Tryz.func101,Tryz.ntmps101
 go_wp2_with (go_at_call 62;((with_reducible refine hq.out.mono ?_);rintro e w' ⟨rfl,rfl⟩))
 go_ret
 exact ⟨ret_u32 (u32_or_nat m p hm (by omega)),rfl⟩
theorem with_out (m:Nat) (n:Int) (w:World) (hm:m < 4294967296) (h:n < 0 ∨ 32 ≤ n):Calls Tryz.prog 101 #[.int .u32 (m:Int),.int .i64 n] w fun e w'=>e = .returned (.int .u32 (m:Int))∧w=w':=by
 have hq:=qh (only_out n w h)
 clear h
 go_enter Tryz.func101,Tryz.ntmps101
 go_wp2_with (go_at_call 62;((with_reducible refine hq.out.mono ?_);rintro e w' ⟨rfl,rfl⟩))
 go_ret
 exact ⟨ret_u32 ((u32_or_nat m 0 hm (by omega)).trans (by simp)),rfl⟩
theorem wout_in (m n:Nat) (w:World) (hm:m < 4294967296) (h1:n < 32):Calls Tryz.prog 68 #[.int .u32 (m:Int),.int .i64 (n:Int)] w fun e w'=>e = .returned (.int .u32 ((m &&& (4294967295 - 2 ^ n):Nat):Int))∧w=w':=by
 obtain ⟨p,hp⟩:∃ p,p=2 ^ n:=⟨_,rfl⟩
 have hq:=qh (only_in n p w h1 hp)
 have hb:=pow_lt n h1
 rw [← hp] at hb ⊢
 clear hp
 go_enter Tryz.func68,Tryz.ntmps68
 go_wp2_with (go_at_call 62;((with_reducible refine hq.out.mono ?_);rintro e w' ⟨rfl,rfl⟩))
 go_ret
 exact ⟨ret_u32 (u32_andNot_nat m p hm (by omega)),rfl⟩
theorem wout_out (m:Nat) (n:Int) (w:World) (hm:m < 4294967296) (h:n < 0 ∨ 32 ≤ n):Calls Tryz.prog 68 #[.int .u32 (m:Int),.int .i64 n] w fun e w'=>e = .returned (.int .u32 (m:Int))∧w=w':=by
 have hq:=qh (only_out n w h)
 clear h
 go_enter Tryz.func68,Tryz.ntmps68
 go_wp2_with (go_at_call 62;((with_reducible refine hq.out.mono ?_);rintro e w' ⟨rfl,rfl⟩))
 go_ret
 exact ⟨ret_u32 ((u32_andNot_nat m 0 hm (by omega)).trans (by
  have:m &&& (4294967295 - 0)=m:=by
   rw [show 4294967295 - 0=2 ^ 32 - 1 by decide,Nat.and_two_pow_sub_one_eq_mod];omega
  rw [this])),rfl⟩
theorem has_in (m n:Nat) (w:World) (hm:m < 4294967296) (h1:n < 32):Calls Tryz.prog 35 #[.int .u32 (m:Int),.int .i64 (n:Int)] w fun e w'=>e = .returned (.bool (m.testBit n))∧w=w':=by
 obtain ⟨p,hp⟩:∃ p,p=2 ^ n:=⟨_,rfl⟩
 have hq:=qh (only_in n p w h1 hp)
 have hb:=pow_lt n h1
 have ha:=and_bit m n
 rw [← hp] at hb ha
 have HA:=qh ha
 clear hp ha
 go_enter Tryz.func35,Tryz.ntmps35
 go_wp2_with (go_at_call 62;((with_reducible refine hq.out.mono ?_);rintro e w' ⟨rfl,rfl⟩))
 go_ret
 exact ⟨ret_bool (by
  rw [u32_and_nat m p hm (by omega),HA.out]
  cases m.testBit n
  ·rfl
  ·have hp0:((p:Nat):Int) ≠ 0:=by omega
   simpa using hp0),rfl⟩
theorem has_out (m:Nat) (n:Int) (w:World) (hm:m < 4294967296) (h:n < 0 ∨ 32 ≤ n):Calls Tryz.prog 35 #[.int .u32 (m:Int),.int .i64 n] w fun e w'=>e = .returned (.bool false)∧w=w':=by
 have hq:=qh (only_out n w h)
 clear h
 go_enter Tryz.func35,Tryz.ntmps35
 go_wp2_with (go_at_call 62;((with_reducible refine hq.out.mono ?_);rintro e w' ⟨rfl,rfl⟩))
 go_ret
 exact ⟨ret_bool (by
  rw [show bits .and .u32 (m:Int) 0=((m &&& 0:Nat):Int) from u32_and_nat m 0 hm (by omega)];simp),rfl⟩
theorem rhas_in (m n:Nat) (w:World) (hm:m < 4294967296) (h1:n < 32):Calls Tryz.prog 39 #[.int .u32 (m:Int),.int .i64 (n:Int)] w fun e w'=>e = .returned (.bool (m.testBit n))∧w=w':=by
 obtain ⟨p,hp⟩:∃ p,p=2 ^ n:=⟨_,rfl⟩
 have hq:=qh (power_any n p w h1 hp)
 have hb:=pow_lt n h1
 have ht:=Nat.testBit_eq_decide_div_mod_eq (x:=m) (i:=n)
 rw [← hp] at hb ht
 have HA:=qh ht
 have h31:n ≤ 31:=by omega
 have hz:((p:Int) == 0)=false:=by simp;omega
 clear hp ht h1
 go_enter Tryz.func39,Tryz.ntmps39
 go_wp2_with (go_at_call 64;((with_reducible refine hq.out.mono ?_);rintro e w' ⟨rfl,rfl⟩))
 go_ret
 exact ⟨ret_bool (by
  rw [HA.out,← Int.natCast_ediv,Bool.eq_iff_iff];simp;omega),rfl⟩
theorem rhas_out (m:Nat) (n:Int) (w:World) (h:n < 0 ∨ 32 ≤ n):Calls Tryz.prog 39 #[.int .u32 (m:Int),.int .i64 n] w fun e w'=>e = .returned (.bool false)∧w=w':=by
 by_cases h0:0 ≤ n
 ·have h1:decide (n ≤ 31)=false:=by simp;omega
  clear h
  go_enter Tryz.func39,Tryz.ntmps39
  go_wp2
  go_ret
  exact ⟨rfl,rfl⟩
 ·clear h
  go_enter Tryz.func39,Tryz.ntmps39
  go_wp2
  go_ret
  exact ⟨rfl,rfl⟩
def wi (m:Nat) (n:Int):Nat:=if 0 ≤ n∧n < 32 then m ||| 2 ^ n.toNat else m
def wo (m:Nat) (n:Int):Nat:=if 0 ≤ n∧n < 32 then m &&& (4294967295 - 2 ^ n.toNat) else m
def ha (m:Nat) (n:Int):Bool:=decide (0 ≤ n∧n < 32) && m.testBit n.toNat
theorem wi_lt (m:Nat) (n:Int) (hm:m < 4294967296):wi m n < 4294967296:=by
 unfold wi
 split
 ·have:=pow_lt n.toNat (by omega)
  exact Nat.or_lt_two_pow (n:=32) hm (by omega)
 ·exact hm
theorem wo_lt (m:Nat) (n:Int) (hm:m < 4294967296):wo m n < 4294967296:=by
 unfold wo
 split
 ·exact Nat.lt_of_le_of_lt Nat.and_le_left hm
 ·exact hm
theorem wi_in (m n:Nat) (h:n < 32):wi m (n:Int)=m ||| 2 ^ n:=by unfold wi;rw [if_pos (by omega)];rfl
theorem wo_in (m n:Nat) (h:n < 32):wo m (n:Int)=m &&& (4294967295 - 2 ^ n):=by unfold wo;rw [if_pos (by omega)];rfl
theorem ha_in (m n:Nat) (h:n < 32):ha m (n:Int)=m.testBit n:=by unfold ha;rw [decide_eq_true (by omega)];rfl
theorem wi_out (m:Nat) (n:Int) (h:n < 0 ∨ 32 ≤ n):wi m n=m:=by unfold wi;rw [if_neg (by omega)]
theorem wo_out (m:Nat) (n:Int) (h:n < 0 ∨ 32 ≤ n):wo m n=m:=by unfold wo;rw [if_neg (by omega)]
theorem ha_out (m:Nat) (n:Int) (h:n < 0 ∨ 32 ≤ n):ha m n=false:=by unfold ha;rw [decide_eq_false (by omega)];rfl
theorem in_or (n:Int):(∃ k:Nat,k < 32∧n=(k:Int)) ∨ (n < 0 ∨ 32 ≤ n):=by
 by_cases h:0 ≤ n∧n < 32
 ·exact .inl ⟨n.toNat,by omega,by omega⟩
 ·exact .inr (by omega)
theorem with_any (m:Nat) (n:Int) (w:World) (hm:m < 4294967296):Calls Tryz.prog 101 #[.int .u32 (m:Int),.int .i64 n] w fun e w'=>e = .returned (.int .u32 (wi m n:Nat))∧w=w':=by
 rcases in_or n with ⟨k,hk,rfl⟩ | h
 ·rw [wi_in m k hk];exact with_in m k w hm hk
 ·rw [wi_out m n h];exact with_out m n w hm h
theorem wout_any (m:Nat) (n:Int) (w:World) (hm:m < 4294967296):Calls Tryz.prog 68 #[.int .u32 (m:Int),.int .i64 n] w fun e w'=>e = .returned (.int .u32 (wo m n:Nat))∧w=w':=by
 rcases in_or n with ⟨k,hk,rfl⟩ | h
 ·rw [wo_in m k hk];exact wout_in m k w hm hk
 ·rw [wo_out m n h];exact wout_out m n w hm h
theorem has_any (m:Nat) (n:Int) (w:World) (hm:m < 4294967296):Calls Tryz.prog 35 #[.int .u32 (m:Int),.int .i64 n] w fun e w'=>e = .returned (.bool (ha m n))∧w=w':=by
 rcases in_or n with ⟨k,hk,rfl⟩ | h
 ·rw [ha_in m k hk];exact has_in m k w hm hk
 ·rw [ha_out m n h];exact has_out m n w hm h
theorem rhas_any (m:Nat) (n:Int) (w:World) (hm:m < 4294967296):Calls Tryz.prog 39 #[.int .u32 (m:Int),.int .i64 n] w fun e w'=>e = .returned (.bool (ha m n))∧w=w':=by
 rcases in_or n with ⟨k,hk,rfl⟩ | h
 ·rw [ha_in m k hk];exact rhas_in m k w hm hk
 ·rw [ha_out m n h];exact rhas_out m n w h
theorem rwith_any (m:Nat) (n:Int) (w:World) (hm:m < 4294967296):Calls Tryz.prog 107 #[.int .u32 (m:Int),.int .i64 n] w fun e w'=>e = .returned (.int .u32 (wi m n:Nat))∧w=w':=by
 rcases in_or n with ⟨k,hk,rfl⟩ | h
 ·rw [wi_in m k hk]
  have hq:=rhas_in m k w hm hk
  obtain ⟨p,hp⟩:∃ p,p=2 ^ k:=⟨_,rfl⟩
  have hb:=pow_lt k hk
  have HQ:=qh (power_any k p w hk hp)
  have o1:=or_has m k
  have o2:=or_add m k
  rw [← hp] at hb o1 o2 ⊢
  have h31:k ≤ 31:=by omega
  clear hk hp
  cases ht:m.testBit k with
  | true=>
   rw [ht] at hq
   have HH:=qh hq
   rw [o1 ht]
   clear hq ht o1 o2
   go_enter Tryz.func107,Tryz.ntmps107
   go_wp2_with (go_at_call 39;((with_reducible refine HH.out.mono ?_);rintro e w' ⟨rfl,rfl⟩))
   go_ret
   exact ⟨rfl,rfl⟩
  | false=>
   rw [ht] at hq
   have HH:=qh hq
   have hlt:m + p < 4294967296:=by
    rw [← o2 ht];exact Nat.or_lt_two_pow (n:=32) hm (by omega)
   rw [o2 ht]
   clear hq ht o1 o2
   go_enter Tryz.func107,Tryz.ntmps107
   go_wp2_with (first
    | (go_at_call 39;((with_reducible refine HH.out.mono ?_);rintro e w' ⟨rfl,rfl⟩))
    | (go_at_call 64;((with_reducible refine HQ.out.mono ?_);rintro e w' ⟨rfl,rfl⟩)))
   go_ret
   exact ⟨ret_u32 (by omega),rfl⟩
 ·rw [wi_out m n h]
  by_cases h0:0 ≤ n
  ·have h1:decide (n ≤ 31)=false:=by simp;omega
   have h2:decide (31 < n)=true:=by simp;omega
   clear h
   go_enter Tryz.func107,Tryz.ntmps107
   go_wp2
   go_ret
   exact ⟨rfl,rfl⟩
  ·clear h
   go_enter Tryz.func107,Tryz.ntmps107
   go_wp2
   go_ret
   exact ⟨rfl,rfl⟩
theorem rwout_any (m:Nat) (n:Int) (w:World) (hm:m < 4294967296):Calls Tryz.prog 51 #[.int .u32 (m:Int),.int .i64 n] w fun e w'=>e = .returned (.int .u32 (wo m n:Nat))∧w=w':=by
 have HH:=qh (rhas_any m n w hm)
 cases hh:ha m n with
 | false=>
  have e:wo m n=m:=by
   rcases in_or n with ⟨k,hk,rfl⟩ | h
   ·rw [ha_in m k hk] at hh;rw [wo_in m k hk];exact anot_has m k hm hk hh
   ·exact wo_out m n h
  rw [e]
  rw [hh] at HH
  clear e hh
  go_enter Tryz.func51,Tryz.ntmps51
  go_wp2_with (go_at_call 39;((with_reducible refine HH.out.mono ?_);rintro e w' ⟨rfl,rfl⟩))
  go_ret
  exact ⟨rfl,rfl⟩
 | true=>
  rw [hh] at HH
  rcases in_or n with ⟨k,hk,rfl⟩ | h
  ·obtain ⟨p,hp⟩:∃ p,p=2 ^ k:=⟨_,rfl⟩
   have hb:=pow_lt k hk
   have HQ:=qh (power_any k p w hk hp)
   rw [ha_in m k hk] at hh
   have e:wo m k=m - 2 ^ k:=by rw [wo_in m k hk];exact anot_sub m k hm hk hh
   have hle:2 ^ k ≤ m:=Nat.ge_two_pow_of_testBit hh
   rw [← hp] at hb e hle
   rw [e]
   have es:((m - p:Nat):Int)=(m:Int) - (p:Int):=by omega
   rw [es]
   clear e hh hp es
   go_enter Tryz.func51,Tryz.ntmps51
   go_wp2_with (first
    | (go_at_call 39;((with_reducible refine HH.out.mono ?_);rintro e w' ⟨rfl,rfl⟩))
    | (go_at_call 64;((with_reducible refine HQ.out.mono ?_);rintro e w' ⟨rfl,rfl⟩)))
   go_ret
   exact ⟨ret_u32 (by omega),rfl⟩
  ·rw [ha_out m n h] at hh;cases hh
end Go.Proofs.YtenhdijbcdkfbaaGreatDoor.mm
namespace Go.Proofs.YtenhdijbcdkfbaaGreatDoor.mm
set_option linter.unusedVariables false
set_option linter.unusedSimpArgs false
set_option maxRecDepth 1000000
set_option maxHeartbeats 16000000
open Go Go.ChangeShapes Go.WideShapes Go.ChangeAt Go.RowKit
attribute [local go_sem] List.append_eq List.cons_append List.nil_append
theorem mask255 (a:Int) (h0:0 ≤ a) (h1:a < 4294967296):bits .and .u32 a 255=a % 256:=by
 have:=u32_and_nat a.toNat 255 (by omega) (by omega)
 rw [Int.toNat_of_nonneg h0] at this
 rw [show (255:Int)=((255:Nat):Int) from rfl,this,show (255:Nat)=2 ^ 8 - 1 by decide,Nat.and_two_pow_sub_one_eq_mod]
 omega
theorem ones32 (m:Nat) (w:World) (hm:m < 4294967296):Calls Tryz.prog 102 #[.int .u32 (m:Int)] w fun e w'=>e = .returned (.int .i64 (pop m 32:Nat))∧∃ n,w'=w.drewN n:=by
 have b1:=mask255 ((m:Int) / 65536) (by omega) (by omega)
 have b2:=mask255 ((m:Int) / 256) (by omega) (by omega)
 have b3:=mask255 (m:Int) (by omega) (by omega)
 have i0:0 ≤ (m:Int) / 16777216:=by omega
 have i1:(m:Int) / 16777216 ≤ 255:=by omega
 have i2:0 ≤ (m:Int) / 65536 % 256:=by omega
 have i3:(m:Int) / 65536 % 256 ≤ 255:=by omega
 have i4:0 ≤ (m:Int) / 256 % 256:=by omega
 have i5:(m:Int) / 256 % 256 ≤ 255:=by omega
 have i6:0 ≤ (m:Int) % 256:=by omega
 have i7:(m:Int) % 256 ≤ 255:=by omega
 go_enter Tryz.func102,Tryz.ntmps102
 go_wp2_with fail
 go_quiet (fail)
 go_wp2_with fail
 go_ret
 refine ⟨ret_i64 ?_,nq,rfl⟩
 have h:=pop_bytes m
 have hle:=pop_le m 32
 have p8:∀ b:Nat,b ≤ 255→Lib.pop8 (b:Int)=(Lib.onesCount b:Nat):=fun b hb=>Lib.pop8_eq ⟨b,by omega⟩
 have q1:=p8 (m / 16777216) (by omega)
 have q2:=p8 (m / 65536 % 256) (by omega)
 have q3:=p8 (m / 256 % 256) (by omega)
 have q4:=p8 (m % 256) (by omega)
 simp only [Int.natCast_ediv,Int.natCast_emod,Int.cast_ofNat_Int] at q1 q2 q3 q4
 have e:m / 16777216 % 256=m / 16777216:=by omega
 rw [e] at h
 rw [q1,q2,q3,q4]
 omega
theorem count_any (m:Nat) (w:World) (hm:m < 4294967296):Calls Tryz.prog 76 #[.int .u32 (m:Int)] w fun e w'=>e = .returned (.int .i64 (pop m 32:Nat))∧∃ n,w'=w.drewN n:=by
 have hq:=qh (ones32 m w hm)
 go_enter Tryz.func76,Tryz.ntmps76
 go_wp2_with (go_at_call 102;((with_reducible refine hq.out.mono ?_);rintro e w' ⟨rfl,nq,rfl⟩))
 go_ret
 exact ⟨rfl,nq,rfl⟩
def Tab (w:World):Prop:=∀ j,j < 32→w.cell? ⟨2,j,none⟩=some (.int .u8 (Lib.deBruijn32tab.getD j 0:Nat))
theorem Tab.lt {w:World} (h:Tab w):2 < w.heap.size:=World.block_lt_of_cell? w _ (h 0 (by decide))
theorem Tab.below {n:Nat} {w w':World} (h:Tab w) (hb:Below n w w') (hn:2 < n):Tab w':=fun j hj=>(hb.cell (p:=⟨2,j,none⟩) hn).trans (h j hj)
theorem Tab.drewN {w:World} (h:Tab w) (n:Nat):Tab (w.drewN n):=fun j hj=>by rw [World.cell?_drewN];exact h j hj
theorem tz_core (m k idx:Nat) (w:World) (hm0:((m:Int) == 0)=false)
  (key:bits BinOp.and IntKind.u32 (m:Int) (-(m:Int) % 4294967296) * 125613361 % 4294967296 / 134217728=(idx:Int)) (hi:idx < 32) (hk:k < 32) (hcell:w.cell? ⟨2,idx,none⟩=some (.int .u8 (k:Int))) :
  Calls Tryz.prog 113 #[.int .u32 (m:Int)] w fun e w'=>e = .returned (.int .i64 (k:Int))∧w=w':=by
 go_enter Tryz.func113,Tryz.ntmps113
 go_wp2_with (simp only [key])
 go_ret
 exact ⟨rfl,rfl⟩
theorem tz_any (m:Nat) (w:World) (h0:0 < m) (hm:m < 4294967296) (hT:Tab w):Calls Tryz.prog 113 #[.int .u32 (m:Int)] w fun e w'=>e = .returned (.int .i64 (Lib.ctz 32 m:Nat))∧w=w':=by
 obtain ⟨hlow,hk⟩:=Lib.lowest_bit 32 m (by omega) hm
 obtain ⟨hi,htab⟩:=Lib.deBruijn32_at _ hk
 have hcell:=hT _ hi
 rw [htab] at hcell
 refine tz_core m _ _ w (by simp;omega) ?_ hi hk hcell
 have e1:-(m:Int) % 4294967296=((4294967296 - m:Nat):Int):=by omega
 rw [e1,u32_and_nat m _ hm (by omega),hlow]
 clear hlow htab hcell hi
 obtain ⟨a,ha⟩:∃ a,a=2 ^ Lib.ctz 32 m:=⟨_,rfl⟩
 rw [← ha]
 omega
def least (m:Nat):Int:=if m=0 then -1 else (Lib.ctz 32 m:Nat)
theorem least_any (m:Nat) (w:World) (hm:m < 4294967296) (hT:Tab w):Calls Tryz.prog 104 #[.int .u32 (m:Int)] w fun e w'=>e = .returned (.int .i64 (least m))∧w=w':=by
 by_cases h0:m=0
 ·subst h0
  clear hT
  go_enter Tryz.func104,Tryz.ntmps104
  go_wp2_with fail
  go_ret
  exact ⟨rfl,rfl⟩
 ·have hq:=qh (tz_any m w (by omega) hm hT)
  have hz:((m:Int) == 0)=false:=by simp;omega
  have HL:=qh (show least m=(Lib.ctz 32 m:Nat) by unfold least;rw [if_neg h0])
  clear h0 hT
  go_enter Tryz.func104,Tryz.ntmps104
  go_wp2_with (go_at_call 113;((with_reducible refine hq.out.mono ?_);rintro e w' ⟨rfl,rfl⟩))
  go_ret
  exact ⟨ret_i64 HL.out.symm,rfl⟩
end Go.Proofs.YtenhdijbcdkfbaaGreatDoor.mm
namespace Go.Proofs.YtenhdijbcdkfbaaGreatDoor.mm
set_option linter.unusedVariables false
set_option linter.unusedSimpArgs false
set_option maxRecDepth 1000000
set_option maxHeartbeats 16000000
open Go Go.RowKit Go.Shelf
attribute [local go_sem] Oper.semAt_some
theorem ones_nil {m:Nat} (h:m < 4294967296) (he:ones m=[]):m=0:=by
 by_cases h0:m=0
 ·exact h0
 ·rw [(ones_cons m (by omega) h).1] at he;cases he
theorem all1_in (n:Nat) (hn:1 ≤ n) (l Bn n₀ m:Nat) (hm:m < 4294967296) (J Jx:List Nat→World→Prop)
  (hY:∀ (pre:List Nat) (x:Nat) W,J pre W→pre.length < (ones m).length→YieldAt Fence.wide (n - 1) Tryz.prog l #[.int .i64 (x:Int)] W fun e W'=>
   (e = .returned (.bool true)∧J (pre ++ [x]) W'∧Below n₀ W W') ∨ (e = .returned (.bool false)∧Jx (pre ++ [x]) W'))
  (W:World) (hn0:2 < n₀) (hBn:W.cell? ⟨Bn,0,none⟩=some (.int .u32 (m:Int))) (hT:Tab W) (h0:J [] W) :
  CallsIn Fence.wide n Tryz.prog 103 #[.func (.yield l) #[] #[],.pointer (some ⟨Bn,0,none⟩)] W fun e W'=>(∃ v,e = .returned v) ∧
   ((∃ ys,ys=ones m∧J ys W') ∨ (∃ pre,pre <+: ones m∧Jx pre W')):=by
 refine callsIn_of_wp Tryz.func103 rfl trivial ?_ rfl
 simp only [Tryz.ntmps103,List.size_toArray,List.length_cons,List.length_nil,Nat.reduceAdd,Nat.reduceSub,Array.replicate_succ,Array.replicate_zero,List.push_toArray,List.append_toArray,List.nil_append,List.cons_append]
 have hT0:=qh hT
 clear hT
 gi_wp2
 gi_loopw [3] (fun p wr=>∃ (pre:List Nat) (r:Nat),r < 4294967296∧p = .int .u32 (r:Int)∧ones m=pre ++ ones r∧Tab wr∧J pre wr)
  (fun p _=>(ones (intOf p).toNat).length)
 case atStart=>
  exact ⟨[],m,hm,rfl,rfl,hT0.out,h0⟩
 case round=>
  obtain ⟨pre,r,hr,rfl,hx,hTr,hJs⟩:=hrel
  by_cases hz:r=0
  ·subst hz
   gi_wp2
   go_end0
   exact ⟨⟨_,rfl⟩,.inl ⟨pre,by rw [hx,ones_zero];simp,hJs⟩⟩
  ·obtain ⟨hc,hk,hlt⟩:=ones_cons r (by omega) hr
   obtain ⟨fn,tmps,assign,body,hy,hR⟩:=hY pre (Lib.ctz 32 r) wr hJs (by rw [hx,hc];simp)
   have hle:=least_any r wr hr hTr
   unfold least at hle
   rw [if_neg hz] at hle
   have HL:=qh hle
   have hne:((r:Int) != 0)=true:=by simp;omega
   obtain ⟨x,hxx⟩:∃ x,x=Lib.ctz 32 r:=⟨_,rfl⟩
   rw [← hxx] at hc hk HL hy hR
   obtain ⟨y,hyy⟩:∃ y,y=r &&& (r - 1):=⟨_,rfl⟩
   rw [← hyy] at hc hlt
   have hand:bits .and .u32 (r:Int) ((r:Int) - 1)=(y:Int):=by
    have:=u32_and_nat r (r - 1) hr (by omega)
    rw [← hyy,show ((r - 1:Nat):Int)=(r:Int) - 1 by omega] at this
    exact this
   have hr1:1 ≤ (r:Int):=by omega
   have HX:=qh hx
   have HC:=qh hc
   clear hx hc hyy hxx hle hz hY
   gi_wp2_with (refine ⟨trivial,?_⟩;gi_at_call 104;refine (callsIn_wide.2 HL.out).mono ?_;rintro e w' ⟨rfl,rfl⟩)
   refine hR.mono ?_
   rintro e W3 (⟨rfl,hJ3,hk3⟩ | ⟨rfl,hJx3⟩)
   ·have HT3:=qh (hTr.below hk3 hn0)
    clear hTr
    gi_wp2
    go_roundw
    case rel=>exact ⟨pre ++ [x],y,hlt,rfl,by rw [HX.out,HC.out];simp,HT3.out,hJ3⟩
    case measure=>simp [intOf,HC.out]
   ·gi_wp2
    refine bodyPost_ret (results_none rfl _ _ _) rfl ?_
    exact ⟨⟨_,rfl⟩,.inr ⟨pre ++ [x],⟨ones y,by rw [HX.out,HC.out];simp⟩,hJx3⟩⟩
theorem all_in (n m:Nat) (w:World) :
  CallsIn Fence.wide n Tryz.prog 77 #[.int .u32 (m:Int)] w fun e w'=>e = .returned (.func (.func 103) #[] #[.pointer (some ⟨w.heap.size,0,none⟩)])∧w'=w.alloc (.cells #[.int .u32 (m:Int)] 56):=by
 refine callsIn_of_wp Tryz.func77 rfl trivial ?_ rfl
 simp only [Tryz.ntmps77,List.size_toArray,List.length_cons,List.length_nil,Nat.reduceAdd,Nat.reduceSub,Array.replicate_succ,Array.replicate_zero,List.push_toArray,List.append_toArray,List.nil_append,List.cons_append]
 gi_wp2
 go_ret
 exact ⟨rfl,rfl⟩
theorem all_stops (n:Nat) (hn:1 ≤ n) (Bn n₀ m:Nat) (hm:m < 4294967296) (w:World) (hBn:Bn < w.heap.size) (hn0:2 < n₀)
  (hc:w.cell? ⟨Bn,0,none⟩=some (.int .u32 (m:Int))) (hT:Tab w) :
  SeqStopsK Fence.wide n Tryz.prog 103 #[.pointer (some ⟨Bn,0,none⟩)] (fun x:Nat=>#[Value.int .i64 (x:Int)]) (Below n₀) (fun ys=>ys=ones m) (fun pre=>pre <+: ones m) (ones m).length w:=fun l J Jx W hW _ _ hY h0=>
 all1_in n hn l Bn n₀ m hm J Jx hY W hn0 ((hW.cell (p:=⟨Bn,0,none⟩) hBn).trans hc) (hT.below hW hT.lt) h0
theorem Tryz.info3:(Tryz.prog.info? 3).map (fun i=>(i.zero,i.size,i.bytes))=some (some (.int .i64 0),1,8):=by kernel_rfl
def row (l:List Nat):List Value:=l.map fun x:Nat=>Value.int .i64 (x:Int)
theorem row_snoc (l:List Nat) (x:Nat):row (l ++ [x])=row l ++ [.int .i64 (x:Int)]:=by simp [row]
end Go.Proofs.YtenhdijbcdkfbaaGreatDoor.mm
namespace Go.Proofs.YtenhdijbcdkfbaaGreatDoor.mm
set_option linter.unusedVariables false
set_option linter.unusedSimpArgs false
set_option maxRecDepth 1000000
set_option maxHeartbeats 16000000
open Go Go.RowKit
def At (w:World) (ad:Option Addr) (xs:List Int):Prop:=∀ k x,xs[k]?=some x→∃ b off,ad=some ⟨b,off,none⟩∧w.cell? ⟨b,off + k,none⟩=some (.int .i64 x)
theorem At.drewN {w:World} {ad:Option Addr} {xs:List Int} (h:At w ad xs) (n:Nat):At (w.drewN n) ad xs:=fun k x hk=>by
 obtain ⟨b,off,h1,h2⟩:=h k x hk
 exact ⟨b,off,h1,by rw [World.cell?_drewN];exact h2⟩
def pre (m k:Nat):List Nat:=(List.range k).filter (fun i=>m.testBit i)
theorem pre_has (m k:Nat) (h:m.testBit k=true):pre m (k + 1)=pre m k ++ [k]:=by
 unfold pre;rw [List.range_succ,List.filter_append];simp [h]
theorem pre_not (m k:Nat) (h:m.testBit k=false):pre m (k + 1)=pre m k:=by
 unfold pre;rw [List.range_succ,List.filter_append];simp [h]
theorem pre_len (m k:Nat):(pre m k).length ≤ k:=by
 have:=List.length_filter_le (fun i=>m.testBit i) (List.range k)
 rw [List.length_range] at this;exact this
theorem push1 {ops:Array Oper} {rest:List Oper} {o:Oper} {a:Act} {Q:Exit→Act→World→Prop} {w wr:World} (hgd:o.guard=none) (s x:Operand)
  (ho:o.op = .call { callee:= .builtin .append,args:=#[s,x],argTypes:=#[90,90] }) {v:Value} {l:List Nat} (hs:a.eval s=v) (hown:wr.ownsRow w.heap.size 3 1 v l.length (row l)) (hbe:Below w.heap.size w wr)
  (n:Nat) (hx:a.eval x = .slice (some ⟨wr.heap.size,0,none⟩) 1 1) (hk:l.length ≤ 4194304)
  (h:∀ v' w',w'.ownsRow w.heap.size 3 1 v' (l ++ [n]).length (row (l ++ [n]))→Below w.heap.size w w'→wpList Tryz.prog ops Q rest (a.put o.dst v') w') :
  wpList Tryz.prog ops Q (o :: rest) a (wr.alloc (.cells #[.int .i64 (n:Int)] 3)):=by
 obtain ⟨i0,hi,hz0,hz1,hz2⟩:=info_parts Tryz.info3
 have hsz:=hbe.size
 refine wpList_append_own _ hgd s x 90 ho w.heap.size 3 i0 (.int .i64 0) 1 8 Tryz.underlying90 hi hz0 hz1 hz2 rfl (by decide) v l.length (row l) hs (hown.alloc _) ⟨wr.heap.size,0,none⟩ 1 1 [.int .i64 (n:Int)] hx rfl ?_ ?_ (by unfold maxLen;omega) (by omega) (by simp;omega) ?_
 ·exact cell_one_new _ _ _
 ·intro r hr;simp at hr;subst hr;rfl
 ·intro v' w' h1 h2 _
  refine h v' w' (by rw [row_snoc,List.length_append];exact h1) ((hbe.alloc hsz _).grown h2 (by simp;omega) (fun k e=>(hown.lt k e).1))
theorem rlist_any (m:Nat) (w:World) (hm:m < 4294967296) :
  Calls Tryz.prog 80 #[.int .u32 (m:Int)] w fun e w'=>∃ v,e = .returned v∧w'.ownsRow w.heap.size 3 1 v (ones m).length (row (ones m))∧Below w.heap.size w w':=by
 go_enter Tryz.func80,Tryz.ntmps80
 go_wp2_with fail
 go_loopw [3,4] (fun v i wr=>∃ k:Nat,k ≤ 32∧i = .int .i64 (k:Int)∧wr.ownsRow w.heap.size 3 1 v (pre m k).length (row (pre m k))∧Below w.heap.size w wr) (fun _ i _=>32 - (intOf i).toNat)
 case atStart=>exact ⟨0,by omega,rfl,World.ownsRow_nil _ _ _ _,Below.refl _ _⟩
 case round=>
  obtain ⟨k,hk,rfl,hown,hbe⟩:=hrel
  by_cases hlt:k < 32
  ·have hq:=rhas_in m k wr hm hlt
   have hpl:=pre_len m k
   have hl4:(pre m k).length ≤ 4194304:=by omega
   cases ht:m.testBit k with
   | true=>
    rw [ht] at hq
    have HQ:=qh hq
    have HP:=qh (pre_has m k ht)
    clear hq ht
    go_wp2_with (first
     | (go_at_call 39;((with_reducible refine HQ.out.mono ?_);rintro e w' ⟨rfl,rfl⟩))
     | (at_builtin;refine push1 rfl _ _ rfl rfl hown hbe _ rfl hl4 ?_;intro v' w2 hown' hbe2))
    go_roundw
    case rel=>exact ⟨k + 1,by omega,by go_num,by rw [HP.out];exact hown',hbe2⟩
    case measure=>simp [intOf];omega
   | false=>
    rw [ht] at hq
    have HQ:=qh hq
    have HP:=qh (pre_not m k ht)
    clear hq ht
    go_wp2_with (go_at_call 39;((with_reducible refine HQ.out.mono ?_);rintro e w' ⟨rfl,rfl⟩))
    go_roundw
    case rel=>exact ⟨k + 1,by omega,by go_num,by rw [HP.out];exact hown,hbe⟩
    case measure=>simp [intOf];omega
  ·have hkn:k=32:=by omega
   subst hkn
   have hown2:wr.ownsRow w.heap.size 3 1 _ (ones m).length (row (ones m)):=hown
   clear hown
   go_wp2_with fail
   go_ret
   exact ⟨_,rfl,hown2,hbe⟩
theorem own_pos {w:World} {base:Nat} {e:TypeId} {size:Nat} {v:Value} {n:Nat} {xs:List Value} (h:w.ownsRow base e size v n xs) (hn:0 < n) :
  ∃ g cap,v = .slice (some ⟨g,0,none⟩) n cap∧base ≤ g∧g < w.heap.size∧∀ j u,xs[j]?=some u→w.cell? ⟨g,j,none⟩=some u:=by
 have hcells:=fun g (hg:v.ownBlock=some g)=>h.cells hg
 have hlt:=h.lt
 rcases h.2 with ⟨rfl,h0⟩ | ⟨g,cap,cur,rfl,hb,hh,_⟩
 ·omega
 ·have h1:=hcells g rfl
  exact ⟨g,cap,rfl,hb,(hlt g rfl).2,fun j u hu=>by
   have h2:=h1 j u hu
   by_cases hj:j=0
   ·subst hj;simpa [Addr.add] using h2
   ·simpa [Addr.add,hj] using h2⟩
theorem At.below {w w':World} {ad:Option Addr} {xs:List Int} {n:Nat} (h:At w ad xs) (hb:Below n w w') (hn:∀ g,ad=some g→g.block < n):At w' ad xs:=fun k x hx=>by
 obtain ⟨b,off,rfl,hc⟩:=h k x hx
 exact ⟨b,off,rfl,(hb.cell (p:=⟨b,off + k,none⟩) (hn ⟨b,off,none⟩ rfl)).trans hc⟩
end Go.Proofs.YtenhdijbcdkfbaaGreatDoor.mm
