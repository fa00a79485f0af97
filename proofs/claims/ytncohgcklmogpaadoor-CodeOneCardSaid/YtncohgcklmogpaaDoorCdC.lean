/-
  What word of package code answers of an instruction that may be: a contract. The tables are as the program's text lays them (Tab).
-/
import Derived.Test.YtncohgcklmogpaaDoorCdB
namespace Go.Proofs.YtncohgcklmogpaaDoor.cd
open Go Go.ChangeShapes Go.WideShapes Go.ChangeAt Go.RowKit
set_option linter.unusedVariables false
set_option maxRecDepth 1000000

/-- What N adds to the word. -/
def nn (f : Nat) (n : Int) : Int := if n < 0 then n + (if f = 2 then 16384 else 4194304) else n
/-- The word of an instruction that may be. -/
def wd (c : Cd) : Int := c.op * 67108864 + c.a * 4194304 + c.b * 262144 + c.c * 16384 + nn (fm c.op) c.n

/-- The bits that tell N. -/
def mk : Nat → Nat
  | 2 => 16383
  | 3 => 4194303
  | 4 => 4194303
  | 5 => 255
  | _ => 0
theorem form_cases {f : Nat} (h : f < 7) : f = 0 ∨ f = 1 ∨ f = 2 ∨ f = 3 ∨ f = 4 ∨ f = 5 ∨ f = 6 := by omega
theorem mk_us {f : Nat} (h : f < 7) : (us f).hn - (us f).ln = (mk f : Int) := by
  rcases form_cases h with rfl | rfl | rfl | rfl | rfl | rfl | rfl <;> rfl
theorem mk_lt (f : Nat) : mk f < 4194304 := by unfold mk; split <;> omega
theorem and14 (x : Nat) : x &&& 16383 = x % 16384 := Nat.and_two_pow_sub_one_eq_mod x 14
theorem and22 (x : Nat) : x &&& 4194303 = x % 4194304 := Nat.and_two_pow_sub_one_eq_mod x 22
theorem and8 (x : Nat) : x &&& 255 = x % 256 := Nat.and_two_pow_sub_one_eq_mod x 8
theorem and4 (x : Nat) : x &&& 15 = x % 16 := Nat.and_two_pow_sub_one_eq_mod x 4
theorem and0 (x : Nat) : x &&& 0 = x % 1 := by rw [Nat.and_zero, Nat.mod_one]
theorem mk_and {f : Nat} (h : f < 7) (x : Nat) : x &&& mk f = x % (mk f + 1) := by
  rcases form_cases h with rfl | rfl | rfl | rfl | rfl | rfl | rfl
  · exact and0 x
  · exact and0 x
  · exact and14 x
  · exact and22 x
  · exact and22 x
  · exact and8 x
  · exact and0 x
/-- Bits beside bits. -/
theorem or_plus (k q b : Nat) (hb : b < 2 ^ k) : (q * 2 ^ k) ||| b = q * 2 ^ k + b := by
  rw [Nat.mul_comm]; exact (Nat.two_pow_add_eq_or_of_lt hb q).symm
theorem or_bits (x y z : Nat) (hx : x < 4294967296) (hy : y < 4294967296) (h : x ||| y = z) : bits .or .u32 (x : Int) (y : Int) = (z : Int) := by rw [u32_or_nat x y hx hy, h]
def top (op a b c : Nat) : Nat := op * 67108864 + a * 4194304 + b * 262144 + c * 16384

theorem twob (w : World) (x y : Obj) : ∃ w3, (w.alloc x).alloc y = w3 ∧ w.grownBy w3 none ∧ w3.heap[w.heap.size]? = some x ∧ w3.heap[w.heap.size + 1]? = some y := by
  have g2 := grown_alloc (grown_refl (w.alloc x) none) y
  have e1 : (w.alloc x).heap.size = w.heap.size + 1 := by simp
  have b2 := heap_alloc_new (w.alloc x) y
  rw [e1] at b2
  exact ⟨_, rfl, grown_alloc (grown_alloc (grown_refl _ _) _) _, row_grown (heap_alloc_new _ _) g2, b2⟩
set_option maxHeartbeats 2000000 in
theorem word_gen (op a b c : Nat) (n : Int) (w : World) (hT : Tab w) (ho : op < 22) (ha : a < 16) (hb : b < 16) (hc : c < 16) : Calls Tryd.prog 15 #[.agg #[.int .u8 (op : Int), .int .i64 (a : Int), .int .i64 (b : Int), .int .i64 (c : Int), .int .i64 n]] w fun e w' => e = .returned (.int .u32 ((top op a b c ||| (n % 4294967296).toNat % (mk (fm op) + 1) : Nat) : Int)) ∧ w.grownBy w' none := by
  have hcf := hT.forms op ho
  have hf := fm_lt op
  have hu := hT.uses (fm op) hf
  have hm := mk_us hf
  have hml := mk_lt (fm op)
  obtain ⟨n', hn'⟩ : ∃ n' : Nat, n' = (n % 4294967296).toNat := ⟨_, rfl⟩
  have hn1 : IntKind.u32.wrap n = (n' : Int) := by rw [IntKind.wrap_u32']; omega
  have hn2 : n' < 4294967296 := by omega
  have hand := mk_and hf n'
  rw [← hn']
  obtain ⟨f, hF⟩ : ∃ f, f = fm op := ⟨_, rfl⟩
  have z1 := World.block_lt_of_cell? w _ hcf
  have z0 := World.block_lt_of_cell? w _ hu.1.1
  simp only at z0 z1
  simp only [← hF] at *
  obtain ⟨m, hmm⟩ : ∃ m, m = mk f := ⟨_, rfl⟩
  rw [← hmm] at hm hml hand ⊢
  generalize us f = u at hu hm
  obtain ⟨la, ha', lb, hb', lc, hc', ln, hn⟩ := u
  obtain ⟨⟨u0, u1, u2, u3⟩, u4, u5, u6, u7⟩ := hu
  simp only at u0 u1 u2 u3 u4 u5 u6 u7 hm
  have HM : Hid (∀ w, _) := Lib.hid fun w => mask_any ln hn m hm (by omega) w
  have o1 : bits .or .u32 ((op : Int) * 67108864) ((a : Int) * 4194304) = ((op * 67108864 + a * 4194304 : Nat) : Int) := or_bits (op * 67108864) (a * 4194304) _ (by omega) (by omega) (by have := or_plus 26 op (a * 4194304) (by omega); simpa using this)
  have o2 : bits .or .u32 ((op * 67108864 + a * 4194304 : Nat) : Int) ((b : Int) * 262144) = ((op * 67108864 + a * 4194304 + b * 262144 : Nat) : Int) := or_bits (op * 67108864 + a * 4194304) (b * 262144) _ (by omega) (by omega) (by have := or_plus 22 (op * 16 + a) (b * 262144) (by omega); rw [show (op * 16 + a) * 2 ^ 22 = op * 67108864 + a * 4194304 by omega] at this; exact this)
  have o3 : bits .or .u32 ((op * 67108864 + a * 4194304 + b * 262144 : Nat) : Int) ((c : Int) * 16384) = ((top op a b c : Nat) : Int) := or_bits (op * 67108864 + a * 4194304 + b * 262144) (c * 16384) _ (by omega) (by omega) (by have := or_plus 18 ((op * 16 + a) * 16 + b) (c * 16384) (by omega); rw [show ((op * 16 + a) * 16 + b) * 2 ^ 18 = op * 67108864 + a * 4194304 + b * 262144 by omega] at this; exact this)
  have htop : top op a b c < 4294967296 := by unfold top; omega
  obtain ⟨X1, hX1⟩ : ∃ X : Nat, X = op * 67108864 + a * 4194304 := ⟨_, rfl⟩
  obtain ⟨X3, hX3⟩ : ∃ X : Nat, X = top op a b c := ⟨_, rfl⟩
  rw [← hX1] at o1 o2 o3
  obtain ⟨X2, hX2⟩ : ∃ X : Nat, X = X1 + b * 262144 := ⟨_, rfl⟩
  rw [← hX2] at o2 o3
  rw [← hX3] at o3 htop ⊢
  have hk : n' % (m + 1) < 4294967296 := Nat.lt_of_lt_of_le (Nat.mod_lt _ (by omega)) (by omega)
  have o4 : bits .and .u32 (n' : Int) (m : Int) = ((n' % (m + 1) : Nat) : Int) := by rw [u32_and_nat n' m hn2 (by omega), hand]
  obtain ⟨k, hkk⟩ : ∃ k, k = n' % (m + 1) := ⟨_, rfl⟩
  rw [← hkk] at o4 hk ⊢
  have o5 : bits .or .u32 (X3 : Int) (k : Int) = ((X3 ||| k : Nat) : Int) := or_bits _ _ _ htop hk rfl
  obtain ⟨Z, hZ⟩ : ∃ Z, Z = X3 ||| k := ⟨_, rfl⟩
  rw [← hZ] at o5 ⊢
  clear hT hF hmm hn' hX1 hX2 hX3 hZ hkk hand hm hml htop hk hn2
  go_enter Tryd.func15, Tryd.ntmps15
  go_upto_region 3 with fail
  obtain ⟨w3, hw3, hg3, hA3, hC3⟩ := twob w (.cells #[.int .u8 (op : Int), .int .i64 (a : Int), .int .i64 (b : Int), .int .i64 (c : Int), .int .i64 n] 27) (.cells #[.int .i64 la, .int .i64 ha', .int .i64 lb, .int .i64 hb', .int .i64 lc, .int .i64 hc', .int .i64 ln, .int .i64 hn] 41)
  rw [hw3]
  have HX : Hid (∀ w', w3.grownBy w' none → _) := Lib.hid fun w' h => keep13 (p := w.heap.size + 2) hA3 hC3 (by omega) (by omega) w' (Kp.of _ h)
  have HG : Hid (w.grownBy w3 none) := Lib.hid hg3
  clear hw3 hg3 hA3 hC3 u0 u1 u2 u3 u4 u5 u6 u7 hcf
  go_region_held3 (fun w' => (w'.cell? ⟨w.heap.size, 0, none⟩ = some (.int .u8 (op : Int)) ∧ w'.cell? ⟨w.heap.size, 1, none⟩ = some (.int .i64 (a : Int)) ∧ w'.cell? ⟨w.heap.size, 2, none⟩ = some (.int .i64 (b : Int)) ∧ w'.cell? ⟨w.heap.size, 3, none⟩ = some (.int .i64 (c : Int)) ∧ w'.cell? ⟨w.heap.size, 4, none⟩ = some (.int .i64 n)) ∧ (w'.cell? ⟨w.heap.size + 1, 0, none⟩ = some (.int .i64 la) ∧ w'.cell? ⟨w.heap.size + 1, 1, none⟩ = some (.int .i64 ha') ∧ w'.cell? ⟨w.heap.size + 1, 2, none⟩ = some (.int .i64 lb) ∧ w'.cell? ⟨w.heap.size + 1, 3, none⟩ = some (.int .i64 hb')) ∧ w'.cell? ⟨w.heap.size + 1, 4, none⟩ = some (.int .i64 lc) ∧ w'.cell? ⟨w.heap.size + 1, 5, none⟩ = some (.int .i64 hc') ∧ w'.cell? ⟨w.heap.size + 1, 6, none⟩ = some (.int .i64 ln) ∧ w'.cell? ⟨w.heap.size + 1, 7, none⟩ = some (.int .i64 hn))
    (first | (with_reducible exact HX.out _ (grown_refl _ _)) | (with_reducible exact HX.out _ (grown_drew (grown_refl _ _))) | (with_reducible exact HX.out _ HG5.out))
    (first | (go_at_call 22; ((with_reducible refine (HM.out _).mono ?_); rintro e w5 ⟨rfl, hg5⟩; have HG5 := Lib.hid (grown_trans (grown_drew (grown_refl w3 none)) hg5); clear hg5)))
  go_wp2_with fail
  go_ret
  exact ⟨rfl, grown_trans HG.out HG5.out⟩
end Go.Proofs.YtncohgcklmogpaaDoor.cd
