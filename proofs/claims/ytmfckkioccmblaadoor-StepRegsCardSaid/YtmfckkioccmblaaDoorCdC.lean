/-
  What word of package code answers of an instruction that may be: a contract. The tables are as the program's text lays them (Tab).
-/
import Derived.Test.YtmfckkioccmblaaDoorCdB
namespace Go.Proofs.YtmfckkioccmblaaDoor.cd
open Go Go.ChangeShapes Go.WideShapes Go.ChangeAt Go.RowKit
set_option linter.unusedVariables false
set_option maxRecDepth 1000000

/-- What N adds to the word. -/
def nn (f : Nat) (n : Int) : Int := if n < 0 then n + (if f = 2 then 16384 else 4194304) else n
/-- The word of an instruction that may be. -/
def wd (c : Cd) : Int := c.op * 67108864 + c.a * 4194304 + c.b * 262144 + c.c * 16384 + nn (fm c.op) c.n

/-- The bits that tell N. -/
def mk : Nat → Nat
  | 2 => 16383
  | 3 => 4194303
  | 4 => 4194303
  | 5 => 255
  | _ => 0
theorem form_cases {f : Nat} (h : f < 7) : f = 0 ∨ f = 1 ∨ f = 2 ∨ f = 3 ∨ f = 4 ∨ f = 5 ∨ f = 6 := by omega
theorem mk_us {f : Nat} (h : f < 7) : (us f).hn - (us f).ln = (mk f : Int) := by
  rcases form_cases h with rfl | rfl | rfl | rfl | rfl | rfl | rfl <;> rfl
theorem mk_lt (f : Nat) : mk f < 4194304 := by unfold mk; split <;> omega
theorem and14 (x : Nat) : x &&& 16383 = x % 16384 := Nat.and_two_pow_sub_one_eq_mod x 14
theorem and22 (x : Nat) : x &&& 4194303 = x % 4194304 := Nat.and_two_pow_sub_one_eq_mod x 22
theorem and8 (x : Nat) : x &&& 255 = x % 256 := Nat.and_two_pow_sub_one_eq_mod x 8
theorem and4 (x : Nat) : x &&& 15 = x % 16 := Nat.and_two_pow_sub_one_eq_mod x 4
theorem and0 (x : Nat) : x &&& 0 = x % 1 := by rw [Nat.and_zero, Nat.mod_one]
theorem mk_and {f : Nat} (h : f < 7) (x : Nat) : x &&& mk f = x % (mk f + 1) := by
  rcases form_cases h with rfl | rfl | rfl | rfl | rfl | rfl | rfl
  · exact and0 x
  · exact and0 x
  · exact and14 x
  · exact and22 x
  · exact and22 x
  · exact and8 x
  · exact and0 x
/-- Bits beside bits. -/
theorem or_plus (k q b : Nat) (hb : b < 2 ^ k) : (q * 2 ^ k) ||| b = q * 2 ^ k + b := by
  rw [Nat.mul_comm]; exact (Nat.two_pow_add_eq_or_of_lt hb q).symm
theorem or_bits (x y z : Nat) (hx : x < 4294967296) (hy : y < 4294967296) (h : x ||| y = z) : bits .or .u32 (x : Int) (y : Int) = (z : Int) := by rw [u32_or_nat x y hx hy, h]
def top (op a b c : Nat) : Nat := op * 67108864 + a * 4194304 + b * 262144 + c * 16384

theorem twob (w : World) (x y : Obj) : ∃ w3, (w.alloc x).alloc y = w3 ∧ w.grownBy w3 none ∧ w3.heap[w.heap.size]? = some x ∧ w3.heap[w.heap.size + 1]? = some y := by
  have g2 := grown_alloc (grown_refl (w.alloc x) none) y
  have e1 : (w.alloc x).heap.size = w.heap.size + 1 := by simp
  have b2 := heap_alloc_new (w.alloc x) y
  rw [e1] at b2
  exact ⟨_, rfl, grown_alloc (grown_alloc (grown_refl _ _) _) _, row_grown (heap_alloc_new _ _) g2, b2⟩
end Go.Proofs.YtmfckkioccmblaaDoor.cd
