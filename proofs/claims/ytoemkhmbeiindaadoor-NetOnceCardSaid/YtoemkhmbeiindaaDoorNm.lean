/-
  What a net is, as plain data: which notes fit a plan, how many are in a pool, that there is room. No condition.
-/
import Derived.Test.YtoemkhmbeiindaaDoorNa5
import Derived.Test.YtoemkhmbeiindaaDoorGr
namespace Go.Proofs.YtoemkhmbeiindaaDoor.tt
open Go
set_option linter.unusedVariables false

/-- A note that fits a plan. -/
def fits (c : Cfg) (n : Nt) : Prop := n.ok ∧ (n.f < c.co ∧ n.t < c.co) ∧ n.b < c.data
instance (c : Cfg) (n : Nt) : Decidable (fits c n) := by unfold fits; infer_instance
/-- A note of the pool of a node and a net. -/
def isOf (node qn : Int) (n : Nt) : Bool := decide (n.t = node) && decide (net n.k = qn)
def many (ns : List Nt) (node qn : Int) : Nat := ns.countP (isOf node qn)
def isPool (c : Cfg) (node qn : Int) : Prop := (-1 ≤ node ∧ node < c.co) ∧ (0 ≤ qn ∧ qn < 3)
instance (c : Cfg) (node qn : Int) : Decidable (isPool c node qn) := by unfold isPool; infer_instance
def roomOf (c : Cfg) (r : Nat) (ns : List Nt) (node qn : Int) : Int := if isPool c node qn then (r : Int) - (many ns node qn : Int) else 0
/-- How far it is from one end of a note to the other. -/
def far (n : Nt) : Int := dist (px n.f) (py n.f) (px n.t) (py n.t)

theorem ok_ends {n : Nt} (h : n.ok) : (-1 ≤ n.f ∧ n.f ≤ 15) ∧ (-1 ≤ n.t ∧ n.t ≤ 15) := by
  have hr := (rule_ok n h.1 h.2.1).1 h
  have h1 := hr.at_
  have h2 := hr.core
  cases hT : tH n.k <;> rw [hT] at h1 h2 <;> simp at h1 h2 <;> omega
theorem ok_net {n : Nt} (h : n.ok) : 0 ≤ net n.k ∧ net n.k < 3 := by
  unfold net
  rw [if_pos h.1]
  split
  · omega
  · split <;> omega
theorem fits_pool {c : Cfg} {n : Nt} (h : fits c n) : isPool c n.t (net n.k) := ⟨⟨(ok_ends h.1).2.1, h.2.1.2⟩, ok_net h.1⟩
theorem far_bounds {n : Nt} (h : n.ok) : 0 ≤ far n ∧ far n ≤ 8 := by
  obtain ⟨⟨h1, h2⟩, h3, h4⟩ := ok_ends h
  unfold far dist px py
  split <;> split <;> omega

/-- All notes fit, and no pool has more than its room. -/
structure NInv (c : Cfg) (r : Nat) (ns : List Nt) : Prop where
  may : c.may
  r1 : 1 ≤ r
  r2 : r ≤ 1024
  all : ∀ n ∈ ns, fits c n
  room : ∀ node qn, many ns node qn ≤ r
def capOf (c : Cfg) (r : Nat) : Nat := (c.co + 1).toNat * 3 * r
theorem cap_int {c : Cfg} {r : Nat} (h : c.may) : (c.co + 1) * 3 * (r : Int) = (capOf c r : Int) := by
  have := h.fits.1
  unfold capOf
  rw [Int.natCast_mul, Int.natCast_mul, Int.toNat_of_nonneg (by omega)]; rfl
theorem co_bounds {c : Cfg} (h : c.may) : 1 ≤ c.co ∧ c.co ≤ 16 := h.fits.1
theorem cap_bounds {c : Cfg} {r : Nat} (h : c.may) (h1 : 1 ≤ r) (h2 : r ≤ 1024) : 1 ≤ capOf c r ∧ capOf c r ≤ 52224 := by
  have hc := co_bounds h
  unfold capOf
  obtain ⟨k, hk⟩ : ∃ k : Nat, (c.co + 1).toNat = k := ⟨_, rfl⟩
  rw [hk]
  have hk1 : 2 ≤ k := by omega
  have hk2 : k ≤ 17 := by omega
  have a := Nat.mul_le_mul (Nat.mul_le_mul_right 3 hk1) h1
  have b := Nat.mul_le_mul (Nat.mul_le_mul_right 3 hk2) h2
  omega

theorem count_lt (f : Nt → Nat) (r : Nat) (ns : List Nt) (h : ∀ i, ns.countP (fun n => f n == i) ≤ r) : ∀ K, ns.countP (fun n => decide (f n < K)) ≤ K * r
  | 0 => by simp
  | K + 1 => by
    have ih := count_lt f r ns h K
    have hs : ns.countP (fun n => decide (f n < K + 1)) ≤ ns.countP (fun n => decide (f n < K)) + ns.countP (fun n => f n == K) := by
      induction ns with
      | nil => simp
      | cons n ns _ =>
        have key : ∀ l : List Nt, l.countP (fun n => decide (f n < K + 1)) = l.countP (fun n => decide (f n < K)) + l.countP (fun n => f n == K) := by
          intro l
          induction l with
          | nil => rfl
          | cons x l il =>
            rw [List.countP_cons, List.countP_cons, List.countP_cons, il]
            by_cases h1 : f x < K
            · have h2 : f x < K + 1 := by omega
              have h3 : ¬ f x = K := by omega
              simp [h1, h2, h3]; omega
            · by_cases h3 : f x = K
              · simp [h3]; omega
              · have h2 : ¬ f x < K + 1 := by omega
                simp [h1, h2, h3]
        exact Nat.le_of_eq (key _)
    have := h K
    rw [Nat.add_mul]; omega
theorem count_all (f : Nt → Nat) (r : Nat) (ns : List Nt) (h : ∀ i, ns.countP (fun n => f n == i) ≤ r) (j : Nat) (hj : ns.countP (fun n => f n == j) < r) : ∀ K, j < K → ns.countP (fun n => decide (f n < K)) + 1 ≤ K * r := by
  have key : ∀ (K : Nat) (l : List Nt), l.countP (fun n => decide (f n < K + 1)) = l.countP (fun n => decide (f n < K)) + l.countP (fun n => f n == K) := by
    intro K l
    induction l with
    | nil => rfl
    | cons x l il =>
      rw [List.countP_cons, List.countP_cons, List.countP_cons, il]
      by_cases h1 : f x < K
      · have h2 : f x < K + 1 := by omega
        have h3 : ¬ f x = K := by omega
        simp [h1, h2, h3]; omega
      · by_cases h3 : f x = K
        · simp [h3]; omega
        · have h2 : ¬ f x < K + 1 := by omega
          simp [h1, h2, h3]
  intro K
  induction K with
  | zero => intro h; omega
  | succ K ih =>
    intro hK
    rw [key, Nat.add_mul]
    by_cases he : j = K
    · have := count_lt f r ns h K
      rw [← he]; rw [← he] at this; omega
    · have := ih (by omega)
      have := h K
      omega
/-- A note's pool, as a number. -/
def poolNo (n : Nt) : Nat := (n.t + 1).toNat * 3 + (net n.k).toNat
theorem poolNo_lt {c : Cfg} {n : Nt} (hm : c.may) (h : fits c n) : poolNo n < (c.co + 1).toNat * 3 := by
  have h1 := fits_pool h
  unfold isPool at h1
  unfold poolNo
  omega
theorem poolNo_count {c : Cfg} {r : Nat} {ns : List Nt} (h : NInv c r ns) (i : Nat) : ns.countP (fun n => poolNo n == i) ≤ r := by
  refine Nat.le_trans (List.countP_mono_left (q := isOf ((i / 3 : Nat) - 1) ((i % 3 : Nat))) fun n hn he => ?_) (h.room _ _)
  have h1 := fits_pool (h.all n hn)
  unfold isPool at h1
  unfold isOf
  simp [poolNo] at he ⊢
  omega
theorem poolNo_own {c : Cfg} {r : Nat} {ns : List Nt} (h : NInv c r ns) {x : Nt} (hx : fits c x) : ns.countP (fun n => poolNo n == poolNo x) ≤ many ns x.t (net x.k) := by
  refine List.countP_mono_left fun n hn he => ?_
  have h1 := fits_pool (h.all n hn)
  have h2 := fits_pool hx
  unfold isPool at h1 h2
  unfold isOf
  simp [poolNo] at he ⊢
  omega
theorem len_le {c : Cfg} {r : Nat} {ns : List Nt} (h : NInv c r ns) : ns.length ≤ capOf c r := by
  have := count_lt poolNo r ns (poolNo_count h) ((c.co + 1).toNat * 3)
  have he : ns.countP (fun n => decide (poolNo n < (c.co + 1).toNat * 3)) = ns.length := List.countP_eq_length.2 fun n hn => by simpa using poolNo_lt h.may (h.all n hn)
  unfold capOf; omega
theorem len_lt {c : Cfg} {r : Nat} {ns : List Nt} (h : NInv c r ns) {x : Nt} (hx : fits c x) (hr : many ns x.t (net x.k) < r) : ns.length < capOf c r := by
  have := count_all poolNo r ns (poolNo_count h) (poolNo x) (Nat.lt_of_le_of_lt (poolNo_own h hx) hr) ((c.co + 1).toNat * 3) (poolNo_lt h.may hx)
  have he : ns.countP (fun n => decide (poolNo n < (c.co + 1).toNat * 3)) = ns.length := List.countP_eq_length.2 fun n hn => by simpa using poolNo_lt h.may (h.all n hn)
  unfold capOf; omega
theorem len_64k {c : Cfg} {r : Nat} {ns : List Nt} (h : NInv c r ns) : ns.length ≤ 65536 := by
  have := len_le h
  have := (cap_bounds h.may h.r1 h.r2).2
  omega
theorem NInv.nil {c : Cfg} {r : Nat} (h : c.may) (h1 : 1 ≤ r) (h2 : r ≤ 1024) : NInv c r [] := ⟨h, h1, h2, fun _ h => by simp at h, fun _ _ => by simp [many]⟩
theorem many_snoc (ns : List Nt) (x : Nt) (node qn : Int) : many (ns ++ [x]) node qn = many ns node qn + (if isOf node qn x then 1 else 0) := by
  unfold many
  rw [List.countP_append, List.countP_singleton]
theorem isOf_self (x : Nt) : isOf x.t (net x.k) x = true := by simp [isOf]
theorem isOf_eq {x : Nt} {node qn : Int} (h : isOf node qn x = true) : node = x.t ∧ qn = net x.k := by
  simp [isOf] at h
  exact ⟨h.1.symm, h.2.symm⟩
theorem NInv.snoc {c : Cfg} {r : Nat} {ns : List Nt} (h : NInv c r ns) {x : Nt} (hx : fits c x) (hr : many ns x.t (net x.k) < r) : NInv c r (ns ++ [x]) :=
  ⟨h.may, h.r1, h.r2, fun n hn => by
    rcases List.mem_append.1 hn with h1 | h1
    · exact h.all n h1
    · simp at h1; subst h1; exact hx, fun node qn => by
    rw [many_snoc]
    split
    · rename_i hi
      obtain ⟨rfl, rfl⟩ := isOf_eq hi
      omega
    · have := h.room node qn; omega⟩
theorem NInv.erase {c : Cfg} {r : Nat} {ns : List Nt} (h : NInv c r ns) (k : Nat) : NInv c r (ns.eraseIdx k) :=
  ⟨h.may, h.r1, h.r2, fun n hn => h.all n (List.mem_of_mem_eraseIdx hn), fun node qn => Nat.le_trans ((List.eraseIdx_sublist ns k).countP_le) (h.room node qn)⟩
theorem room_of {c : Cfg} {r : Nat} {ns : List Nt} {x : Nt} (hx : fits c x) : roomOf c r ns x.t (net x.k) = (r : Int) - (many ns x.t (net x.k) : Int) := if_pos (fits_pool hx)
/-- What Send answers. -/
def sendE (c : Cfg) (r : Nat) (ns : List Nt) (n : Nt) : Int := if fits c n then (if many ns n.t (net n.k) < r then 0 else 7) else 2
def sendN (c : Cfg) (r : Nat) (ns : List Nt) (n : Nt) : List Nt := if fits c n ∧ many ns n.t (net n.k) < r then ns ++ [n] else ns
theorem NInv.send {c : Cfg} {r : Nat} {ns : List Nt} (h : NInv c r ns) (n : Nt) : NInv c r (sendN c r ns n) := by
  unfold sendN
  split
  · rename_i hs; exact h.snoc hs.1 hs.2
  · exact h
end Go.Proofs.YtoemkhmbeiindaaDoor.tt
