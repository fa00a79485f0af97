/-
  What a core's log is to the laws: contracts of its calls, as one record; how writes lie as a law's arguments. No condition.
-/
import Derived.Test.YtfjjmlmkpdpdfaaDoorUdE
import Derived.Test.YtfjjmlmkpdpdfaaDoorMeC5
namespace Go.Proofs.YtfjjmlmkpdpdfaaDoor.ud
open Go Go.RowKit
open Go.Proofs.YtfjjmlmkpdpdfaaDoor.tt (Cfg Tab trip CfgAt)
open Go.Proofs.YtfjjmlmkpdpdfaaDoor.pp (RMem Mem grown_refl grown_trans grown_alloc setW getW inn inb)
set_option linter.unusedVariables false

/-- What Add answers. -/
def addE (c : Cfg) (es : List (Int × Int)) (a : Int) : Int := if wErr c a ≠ 0 then wErr c a else if (es.length : Int) = 8 * c.lo then 7 else 0
def addL (c : Cfg) (es : List (Int × Int)) (a o : Int) : List (Int × Int) := if addE c es a = 0 then es ++ [(a, o)] else es
def addB (c : Cfg) (F : Nat) (es : List (Int × Int)) (bs : List (List Int)) (a o : Int) : List (List Int) := if addE c es a = 0 then putE bs F es.length (a, o) else bs
/-- What At answers. -/
def atV (es : List (Int × Int)) (i : Int) : Value := if 0 ≤ i ∧ i < es.length then .tuple #[.int .u32 (es.getD i.toNat (0, 0)).1, .int .u32 (es.getD i.toNat (0, 0)).2, .int .i64 0] else .tuple #[.int .u32 0, .int .u32 0, .int .i64 4]

/-- A call that writes blocks of P alone, and new ones: P' is what it may write behind that. -/
structure Nx (w w' : World) (P P' : Nat → Prop) : Prop where
  fr : Fr w w' P
  nx : ∀ k, P' k → P k ∨ w.heap.size ≤ k
theorem Nx.trans {a b d : World} {P P' P'' : Nat → Prop} (h : Nx a b P P') (k : Nx b d P' P'') : ∀ j, j < a.heap.size → ¬ P j → d.heap[j]? = a.heap[j]? := fun j hj hn =>
  (k.fr.block j (Nat.lt_of_lt_of_le hj h.fr.size) fun hp => by rcases h.nx j hp with h1 | h1; exact hn h1; omega).trans (h.fr.block j hj hn)

/-- The log at lb, of the plan c and of core, over the memory at mb (its row of blocks: mv): S w P es bs is that in w it holds es, its blocks and the memory's are P, and the memory is bs. -/
structure Impl (w0 : World) (c : Cfg) (F : Nat) (mb : Nat) (mv : Value) (lb : Nat) (S : World → (Nat → Prop) → List (Int × Int) → List (List Int) → Prop) : Prop where
  old : ∀ {w P es bs}, S w P es bs → w0.grownBy w none
  lt : ∀ {w P es bs}, S w P es bs → ∀ k, P k → k < w.heap.size
  row : ∀ {w P es bs}, S w P es bs → ∀ k, P k → ∀ cs f, w.heap[k]? ≠ some (.cells cs 56 f)
  mem : ∀ {w P es bs}, S w P es bs → Mem w mb mv bs
  own : ∀ {w P es bs}, S w P es bs → ∀ k, mv.ownBlock = some k → P k ∧ w0.heap.size ≤ k
  len : ∀ {w P es bs}, S w P es bs → (es.length : Int) ≤ 8 * c.lo
  grown : ∀ {w w' P es bs}, S w P es bs → w.grownBy w' none → S w' P es bs
  aside : ∀ {w w' P es bs} {Q : Nat → Prop}, S w P es bs → Fr w w' Q → (∀ k, Q k → ¬ P k ∧ w0.heap.size ≤ k ∧ ∀ cs f, w.heap[k]? ≠ some (.cells cs 56 f)) → S w' P es bs
  setw : ∀ {w w' P es bs} {b k : Nat} {y : Int}, S w P es bs → (b : Int) < c.data → k < 16 → Mem w' mb mv (put1 bs b k y) → w.grownBy w' mv.ownBlock → S w' P es (put1 bs b k y)
  add : ∀ {w P es bs} (a o : Int), S w P es bs → 0 ≤ a → a < 4294967296 → Calls Tryd.prog 12 #[.pointer (some ⟨lb, 0, none⟩), .int .u32 a, .int .u32 o] w fun e w' => e = .returned (.int .i64 (addE c es a)) ∧ ∃ P', S w' P' (addL c es a o) (addB c F es bs a o) ∧ Nx w w' P P'
  pop : ∀ {w P es bs}, S w P es bs → Calls Tryd.prog 14 #[.pointer (some ⟨lb, 0, none⟩)] w fun e w' => e = .returned (.int .i64 (if es = [] then 4 else 0)) ∧ ∃ P', S w' P' es.dropLast bs ∧ Nx w w' P P'
  clr : ∀ {w P es bs}, S w P es bs → Calls Tryd.prog 16 #[.pointer (some ⟨lb, 0, none⟩)] w fun e w' => e = .returned (.tuple #[]) ∧ ∃ P', S w' P' [] bs ∧ Nx w w' P P'
  at_ : ∀ {w P es bs} (i : Int), S w P es bs → Calls Tryd.prog 23 #[.pointer (some ⟨lb, 0, none⟩), .int .i64 i] w fun e w' => e = .returned (atV es i) ∧ w.grownBy w' none
  last : ∀ {w P es bs}, S w P es bs → Calls Tryd.prog 15 #[.pointer (some ⟨lb, 0, none⟩)] w fun e w' => e = .returned (atV es ((es.length : Int) - 1)) ∧ w.grownBy w' none
  leng : ∀ {w P es bs}, S w P es bs → Calls Tryd.prog 17 #[.pointer (some ⟨lb, 0, none⟩)] w fun e w' => e = .returned (.int .i64 (es.length : Int)) ∧ ∃ q, w' = w.drewN q
  room : ∀ {w P es bs}, S w P es bs → Calls Tryd.prog 18 #[.pointer (some ⟨lb, 0, none⟩)] w fun e w' => e = .returned (.int .i64 (8 * c.lo - (es.length : Int))) ∧ ∃ q, w' = w.drewN q

/-- What New does where no log may be, and where one may. -/
def NewNo : Prop := ∀ (c : Cfg) (core : Int) (w : World) (mb : Nat) (mv : Value) (bs : List (List Int)), Tab w → Mem w mb mv bs → bs.length ≤ 256 → ¬ (c.may ∧ 0 ≤ core ∧ core < c.co ∧ (bs.length : Int) = c.bl) →
  Calls Tryd.prog 9 #[.agg c.cells, .pointer (some ⟨mb, 0, none⟩), .int .i64 core] w fun e w' => ∃ z : Int, z ≠ 0 ∧ e = .returned (.tuple #[.pointer none, .int .i64 z]) ∧ w.grownBy w' none
def NewOk : Prop := ∀ (c : Cfg) (core : Int) (w0 w : World) (mb : Nat) (mv : Value) (bs : List (List Int)) (F : Nat), Tab w0 → w0.grownBy w none → Mem w mb mv bs → (∀ k, mv.ownBlock = some k → w0.heap.size ≤ k) → c.may → 0 ≤ core → core < c.co → (bs.length : Int) = c.bl → c.data + core * c.lo = F →
  Calls Tryd.prog 9 #[.agg c.cells, .pointer (some ⟨mb, 0, none⟩), .int .i64 core] w fun e w' => ∃ lb S P, e = .returned (.tuple #[.pointer (some ⟨lb, 0, none⟩), .int .i64 0]) ∧ Impl w0 c F mb mv lb S ∧ S w' P [] bs ∧ w.grownBy w' none
def WorksOk : Prop := ∀ w, Tab w → Calls Tryd.prog 11 #[] w fun e w' => e = .returned (.bool true) ∧ w.grownBy w' none

/-- A write of a script: its block, its word, what is written. -/
structure Wr where
  b : Int
  k : Int
  x : Int
deriving Inhabited
def WrAt (w : World) (ad : Option Addr) (os : List Wr) : Prop := ∀ (j : Nat) (q : Wr), os[j]? = some q → ∃ g off, ad = some ⟨g, off, none⟩ ∧ w.cell? ⟨g, off + j * 3, none⟩ = some (.int .i64 q.b) ∧ w.cell? ⟨g, off + j * 3 + 1, none⟩ = some (.int .i64 q.k) ∧ w.cell? ⟨g, off + j * 3 + 2, none⟩ = some (.int .u32 q.x)
theorem WrAt.grown {w w' : World} {ad : Option Addr} {os : List Wr} (h : WrAt w ad os) (hg : w.grownBy w' none) : WrAt w' ad os := fun k q hk => by
  obtain ⟨g, off, e, h0, h1, h2⟩ := h k q hk
  exact ⟨g, off, e, hg.cell h0 (by simp), hg.cell h1 (by simp), hg.cell h2 (by simp)⟩

/-- A memory beside is left alone. -/
theorem mem_aside {w w' : World} {b : Nat} {v : Value} {bs : List (List Int)} {P : Nat → Prop} (h : Mem w b v bs) (hg : Fr w w' P) (hb : ¬ P b) (hv : ∀ k, v.ownBlock = some k → ¬ P k) (hr : ∀ k, P k → ∀ cs f, w.heap[k]? ≠ some (.cells cs 56 f)) : Mem w' b v bs := by
  obtain ⟨ps, h1, h2, h3⟩ := h.sl
  refine ⟨(hg.block b h.lt hb).trans h.blk, ⟨ps, h1.of_block fun g hgk => hg.block g (h1.lt g hgk) (hv g hgk), h2, fun i q x hq hx => (hg.block q (Array.getElem?_eq_some_iff.1 (h3 i q x hq hx)).1 fun hp => ?_).trans (h3 i q x hq hx)⟩, h.len⟩
  exact hr q hp _ _ (h3 i q x hq hx)
theorem mem_word_set {bs : List (List Int)} {b k : Nat} {y : Int} (hb : b < bs.length) (hk : k < 16) : setW bs (b : Int) (k : Int) y = put1 bs b k y := by
  unfold setW put1
  rw [if_pos (by unfold inn; simp; omega)]
  rfl
theorem mem_word_get {bs : List (List Int)} {b k : Nat} (hb : b < bs.length) (hk : k < 16) : getW bs (b : Int) (k : Int) = (bs.getD b []).getD k 0 := by
  unfold getW
  rw [if_pos (by unfold inn; simp; omega)]
  rfl
end Go.Proofs.YtfjjmlmkpdpdfaaDoor.ud
