/-
  Which notes fit a plan, as plain data. No condition.
  A home as plain data: what each note makes go out, and the home behind it; what holds of a home all the while. No condition.
  What goes out of a home, as plain facts: all of it is about the note's block and from the home; a refused ask changes no entry; who gets a block alone, or as its own, owns it; what the memory becomes. No condition.
  Those that wait begin one after the other: the row of those that wait, gone over from its start each time, makes the same of a home as gone over once. No condition.
-/
import Derived.Test.YtenhdijbcdkfbaaDoorNa
import Derived.Test.YtenhdijbcdkfbaaDoorEo
namespace Go.Proofs.YtenhdijbcdkfbaaDoor.tt
open Go
set_option linter.unusedVariables false

/-- A note that fits a plan. -/
def fits (c : Cfg) (n : Nt) : Prop := n.ok ∧ (n.f < c.co ∧ n.t < c.co) ∧ n.b < c.data
instance (c : Cfg) (n : Nt) : Decidable (fits c n) := by unfold fits; infer_instance
theorem ok_ends {n : Nt} (h : n.ok) : (-1 ≤ n.f ∧ n.f ≤ 15) ∧ (-1 ≤ n.t ∧ n.t ≤ 15) := by
  have hr := (rule_ok n h.1 h.2.1).1 h
  have h1 := hr.at_
  have h2 := hr.core
  cases hT : tH n.k <;> rw [hT] at h1 h2 <;> simp at h1 h2 <;> omega
end Go.Proofs.YtenhdijbcdkfbaaDoor.tt

namespace Go.Proofs.YtenhdijbcdkfbaaDoor.hh
open Go
open Go.Proofs.YtenhdijbcdkfbaaDoor.tt (Nt Cfg fits net bare zd usd uses coreOf ok_ends)
open Go.Proofs.YtenhdijbcdkfbaaDoor.en (En gets back asked asks free ask_parts may_parts)
open Go.Proofs.YtenhdijbcdkfbaaDoor.mm (wi wo ones wo_lt)
set_option linter.unusedVariables false

theorem lay1 {α : Type} (l : List α) (i : Nat) (a : α) : l.toArray.setIfInBounds i a = (l.set i a).toArray := List.setIfInBounds_toArray ..
theorem lay2 {α : Type} (a : α) (l : List α) (b : α) : (a :: l).set 0 b = b :: l := List.set_cons_zero ..
theorem lay3 {α : Type} (a : α) (l : List α) (n : Nat) (b : α) : (a :: l).set (n + 1) b = a :: l.set n b := List.set_cons_succ ..
theorem tl {P : Program} {md : Region.Mode} {ops : Array Oper} {Q : Exit → Act → World → Prop} {S : World → Prop} {fuel : Nat} {listed : Array Bool} {a : Act} {w : World} (i : Nat) (oi : Oper) (v : Value) (hi : ops[i]? = some oi) (hy : ∀ w, S w → (execOp a.eval oi).run P w = .ok (.value v) w)
    (h : wpAnyH P md ops Q S fuel (listed.setIfInBounds i true) (a.put oi.dst v) w) (hw : Region.wanted oi (yielded ops a.tmps) = true := by rfl) (hS : S w := by assumption) (hs : Region.noSelect ops = true := by kernel_rfl) (hf : Region.free md ops listed i = true := by kernel_rfl) (hr : (Region.ready md ops listed).contains i = true := by kernel_rfl)
    (hQ : ∀ c a w, Q (.panic c) (a.put oi.dst v) w → Q (.panic c) a w := by exact fun _ _ _ h => h) : wpAnyH P md ops Q S (fuel + 1) listed a w := wpAnyH_take hi hs hf hr hQ (Or.inl ⟨hw, hy⟩) hS h
theorem tu {P : Program} {md : Region.Mode} {ops : Array Oper} {Q : Exit → Act → World → Prop} {S : World → Prop} {fuel : Nat} {listed : Array Bool} {a : Act} {w : World} (i : Nat) (oi : Oper) (hi : ops[i]? = some oi)
    (h : wpAnyH P md ops Q S fuel (listed.setIfInBounds i true) (a.put oi.dst undef) w) (hw : Region.wanted oi (yielded ops a.tmps) = false := by rfl) (hS : S w := by assumption) (hs : Region.noSelect ops = true := by kernel_rfl) (hf : Region.free md ops listed i = true := by kernel_rfl) (hr : (Region.ready md ops listed).contains i = true := by kernel_rfl)
    (hQ : ∀ c a w, Q (.panic c) (a.put oi.dst undef) w → Q (.panic c) a w := by exact fun _ _ _ h => h) : wpAnyH P md ops Q S (fuel + 1) listed a w := wpAnyH_take hi hs hf hr hQ (Or.inr ⟨hw, rfl⟩) hS h
theorem lay : (∀ (a : Act) (v : Value), a.put none v = a) ∧ (∀ (a : Act) (t : Tmp) (v : Value), a.put (some t) v = { a with tmps := a.tmps.setIfInBounds t v }) ∧ (∀ (l : List Value) (i : Nat) (a : Value), l.toArray.setIfInBounds i a = (l.set i a).toArray) ∧ (∀ (l : List Bool) (i : Nat) (a : Bool), l.toArray.setIfInBounds i a = (l.set i a).toArray) ∧
    (∀ (a : Value) (l : List Value) (b : Value), (a :: l).set 0 b = b :: l) ∧ (∀ (a : Bool) (l : List Bool) (b : Bool), (a :: l).set 0 b = b :: l) ∧ (∀ (a : Value) (l : List Value) (n : Nat) (b : Value), (a :: l).set (n + 1) b = a :: l.set n b) ∧ ∀ (a : Bool) (l : List Bool) (n : Nat) (b : Bool), (a :: l).set (n + 1) b = a :: l.set n b :=
  ⟨fun _ _ => rfl, fun _ _ _ => rfl, lay1, lay1, lay2, lay2, lay3, lay3⟩
theorem qh {p : Prop} (h : p) : Go.RowKit.Hid p := Lib.hid h
/-- An operation of a region that draws its order, taken first. -/
theorem tk {P : Program} {md : Region.Mode} {ops : Array Oper} {Q : Exit → Act → World → Prop} {S : World → Prop} {i : Nat} {oi : Oper} {v : Value} {fuel : Nat} {listed : Array Bool} {a : Act} {w : World} (hi : ops[i]? = some oi) (hy : YieldsIf P ops S oi v a) (hS : S w)
    (h : wpAnyH P md ops Q S fuel (listed.setIfInBounds i true) (a.put oi.dst v) w) (hs : Region.noSelect ops = true := by kernel_rfl) (hf : Region.free md ops listed i = true := by kernel_rfl) (hr : (Region.ready md ops listed).contains i = true := by kernel_rfl)
    (hQ : ∀ c a w, Q (.panic c) (a.put oi.dst v) w → Q (.panic c) a w := by exact fun _ _ _ h => h) : wpAnyH P md ops Q S (fuel + 1) listed a w := wpAnyH_take hi hs hf hr hQ hy hS h
/-- The one operation that may come up comes up. -/
theorem rd1 {P : Program} {md : Region.Mode} {ops : Array Oper} {Q : Exit → Act → World → Prop} {S : World → Prop} {i : Nat} {o : Oper} {fuel : Nat} {listed : Array Bool} {a : Act} {w : World} (ho : ops[i]? = some o)
    (h : ∀ K' : Act → World → Prop, Shut (∀ a w, S w → (S w → wpAnyH P md ops Q S fuel (listed.setIfInBounds i true) a w) → K' a w) → if Region.wanted o (yielded ops a.tmps) = true then Oper.wp P o a w K' Q else K' (a.put o.dst undef) w)
    (hr : Region.ready md ops listed = [i] := by kernel_rfl) : wpAnyH P md ops Q S (fuel + 1) listed a w := wpAnyH_ready hr (by simp) (AllReadyH.cons ho h AllReadyH.nil)
/-- An ask under way: the ask, who was asked and has not answered, whether it was answered, whether it is refused, the least stamp of those who refused it. -/
structure Jb where
  a : Nt
  w : Nat
  d : Bool
  r : Bool
  l : Int
/-- A home: of each data block what is known and what is under way; the asks that wait; the memory's blocks. -/
structure Hm where
  en : List En
  jb : List (Option Jb)
  wt : List Nt
  mm : List (List Int)
def enOf (H : Hm) (b : Nat) : En := H.en.getD b free
def jbOf (H : Hm) (b : Nat) : Option Jb := H.jb.getD b none
def rowOf (H : Hm) (b : Nat) : List Int := H.mm.getD b zd
/-- The note that brings a block. -/
def dataN (x b s : Int) (row : List Int) : Nt := if h : row.length = 16 then ⟨6, -1, x, b, 0, s, true, false, row, h⟩ else bare 6 (-1) x b 0 s true false
/-- An ask is answered. -/
def answer (H : Hm) (b : Nat) : Hm × List Nt :=
  match jbOf H b with
  | none => (H, [])
  | some j => ({ H with en := H.en.set b (gets (enOf H b) j.a.k j.a.f).1, jb := H.jb.set b (some { j with d := true }) }, [dataN j.a.f b (gets (enOf H b) j.a.k j.a.f).2.1 (rowOf H b)])
/-- An ask begins. -/
def begin1 (H : Hm) (n : Nt) : Hm × List Nt :=
  if n.k = 3 then
    ({ H with en := H.en.set n.b.toNat (back (enOf H n.b.toNat) n.f n.q).1, mm := if (back (enOf H n.b.toNat) n.f n.q).2.1 then H.mm.set n.b.toNat n.d else H.mm }, [bare 8 (-1) n.f n.b 0 0 false false])
  else if (asked (enOf H n.b.toNat) n.k n.f).1 = 0 then answer { H with jb := H.jb.set n.b.toNat (some ⟨n, 0, false, false, 0⟩) } n.b.toNat
  else ({ H with jb := H.jb.set n.b.toNat (some ⟨n, (asked (enOf H n.b.toNat) n.k n.f).1, false, false, 0⟩) },
    (ones (asked (enOf H n.b.toNat) n.k n.f).1).map fun (x : Nat) => bare (asked (enOf H n.b.toNat) n.k n.f).2.1 (-1) (x : Int) n.b n.st 0 false false)
/-- Those that wait about a block begin, till one of it is under way: pre are those that were passed over. -/
def run (b : Nat) : Hm → List Nt → List Nt → Hm × List Nt
  | H, pre, [] => ({ H with wt := pre }, [])
  | H, pre, n :: rest =>
    if (jbOf H b).isSome then ({ H with wt := pre ++ n :: rest }, [])
    else if n.b = (b : Int) then
      let r := begin1 H n
      let q := run b r.1 pre rest
      (q.1, r.2 ++ q.2)
    else run b H (pre ++ [n]) rest
/-- An ask ends. -/
def fin (H : Hm) (b : Nat) : Hm × List Nt := run b { H with jb := H.jb.set b none } [] H.wt
def roomH (c : Cfg) : Int := c.co * (c.ba + 1)
/-- What Ready answers. -/
def ready (c : Cfg) (H : Hm) (n : Nt) : Int :=
  if ¬ fits c n ∨ n.t ≠ -1 then 2
  else if net n.k = 0 then (if (jbOf H n.b.toNat).isSome ∧ roomH c ≤ (H.wt.length : Int) then 110 else 0)
  else match jbOf H n.b.toNat with
    | none => 8
    | some j => if n.k = 11 then (if j.d = true ∧ j.a.f = n.f then 0 else 8) else (if j.d = false ∧ j.w.testBit n.f.toNat = true then 0 else 8)
/-- A core's answer is noted. -/
def noted (j : Jb) (n : Nt) : Jb :=
  { j with w := wo j.w n.f, r := j.r || decide (n.k = 10), l := if n.k = 10 ∧ (j.r = false ∨ n.st < j.l) then n.st else j.l }
/-- What Take makes of a home, what goes out, the error. -/
def take (c : Cfg) (H : Hm) (n : Nt) : Hm × List Nt × Int :=
  if ready c H n ≠ 0 then (H, [], ready c H n)
  else if net n.k = 0 then
    (if (jbOf H n.b.toNat).isSome then ({ H with wt := H.wt ++ [n] }, [], 0) else ((begin1 H n).1, (begin1 H n).2, 0))
  else if n.k = 11 then ((fin H n.b.toNat).1, (fin H n.b.toNat).2, 0)
  else match jbOf H n.b.toNat with
    | none => (H, [], 0)
    | some j =>
      let H1 : Hm := { H with mm := if n.h then H.mm.set n.b.toNat n.d else H.mm, jb := H.jb.set n.b.toNat (some (noted j n)) }
      if (noted j n).w ≠ 0 then (H1, [], 0)
      else if (noted j n).r then ((fin H1 n.b.toNat).1, bare 7 (-1) j.a.f n.b (noted j n).l 0 false false :: (fin H1 n.b.toNat).2, 0)
      else ((answer H1 n.b.toNat).1, (answer H1 n.b.toNat).2, 0)
/-- A new home. -/
def new (c : Cfg) (mm : List (List Int)) : Hm := ⟨List.replicate c.data.toNat free, List.replicate c.data.toNat none, [], mm⟩

/-- An ask that may be taken. -/
structure Asks (c : Cfg) (n : Nt) : Prop where
  fits : fits c n
  to : n.t = -1
  net : net n.k = 0
/-- An ask under way about the block b. -/
structure JobOk (c : Cfg) (b : Nat) (j : Jb) : Prop where
  asks : Asks c j.a
  kind : j.a.k = 1 ∨ j.a.k = 2
  blk : j.a.b = (b : Int)
  w : j.w < 4294967296
  l : 0 ≤ j.l ∧ j.l < 18446744073709551616
/-- What holds of a home. -/
structure Inv (c : Cfg) (H : Hm) : Prop where
  may : c.may
  le : H.en.length = c.data.toNat
  lj : H.jb.length = c.data.toNat
  lm : H.mm.length = c.bl.toNat
  rows : ∀ r ∈ H.mm, r.length = 16
  ents : ∀ e ∈ H.en, e.may = true
  jobs : ∀ b j, H.jb[b]? = some (some j) → JobOk c b j
  wait : ∀ n ∈ H.wt, Asks c n

theorem may_free : free.may = true := by decide
theorem ents_of {c : Cfg} {H : Hm} (h : Inv c H) (b : Nat) : (enOf H b).may = true := by
  unfold enOf
  rw [List.getD_eq_getElem?_getD]
  cases hb : H.en[b]? with
  | none => exact may_free
  | some e => exact h.ents e (List.mem_of_getElem? hb)
theorem jbOf_get {H : Hm} {b : Nat} {j : Jb} (h : jbOf H b = some j) : H.jb[b]? = some (some j) := by
  unfold jbOf at h
  rw [List.getD_eq_getElem?_getD] at h
  cases hb : H.jb[b]? with
  | none => rw [hb] at h; cases h
  | some o => rw [hb] at h; simp at h; rw [h]
theorem get_jbOf {H : Hm} {b : Nat} {o : Option Jb} (h : H.jb[b]? = some o) : jbOf H b = o := by
  unfold jbOf; rw [List.getD_eq_getElem?_getD, h]; rfl
theorem mem_set {α : Type} {l : List α} {k : Nat} {x y : α} (h : y ∈ l.set k x) : y ∈ l ∨ y = x := List.mem_or_eq_of_mem_set h
theorem jobs_set {c : Cfg} {H : Hm} {b : Nat} {o : Option Jb} (h : Inv c H) (ho : ∀ j, o = some j → JobOk c b j) : ∀ k j, (H.jb.set b o)[k]? = some (some j) → JobOk c k j := fun k j hk => by
  rw [List.getElem?_set] at hk
  split at hk
  · rename_i e
    subst e
    split at hk
    · exact ho j (by simpa using hk)
    · cases hk
  · exact h.jobs k j hk
/-- An ask may be taken: its kind, its core. -/
theorem asks_kind {c : Cfg} {n : Nt} (h : Asks c n) : n.k = 1 ∨ n.k = 2 ∨ n.k = 3 := by
  have h1 := h.net
  have h2 := h.fits.1.1
  unfold tt.net at h1
  rw [if_pos h2] at h1
  split at h1
  · omega
  · split at h1 <;> simp at h1
theorem asks_core {c : Cfg} {n : Nt} (h : Asks c n) : 0 ≤ n.f ∧ n.f ≤ 15 := by
  have hk := asks_kind h
  have hc := h.fits.1.2.2.2.1
  unfold coreOf uses at hc
  rcases hk with e | e | e <;> rw [e] at hc <;> simp at hc <;> omega
theorem asks_ask {c : Cfg} {n : Nt} {e : En} (h : Asks c n) (hk : n.k = 1 ∨ n.k = 2) (he : e.may = true) : en.ask e n.k n.f = true := by
  have hc := asks_core h
  unfold en.ask
  rw [he, decide_eq_true hc, decide_eq_true hk]; rfl
theorem blk_lt {c : Cfg} {n : Nt} (h : fits c n) : 0 ≤ n.b ∧ n.b.toNat < c.data.toNat := by
  have h1 := h.1.2.1
  have h2 := h.2.2
  omega
theorem gets_may {e : En} {k x : Int} (h : en.ask e k x = true) : (gets e k x).1.may = true := by
  obtain ⟨o, s⟩ := e
  rcases en.gets_three o s k x h with ⟨t, h1, _⟩ | ⟨m, h1, hm, _⟩
  · rw [h1]; obtain ⟨_, hx, _⟩ := ask_parts h; exact en.may_yes (by omega)
  · rw [h1]; exact en.may_yes (by omega)
theorem back_may {e : En} {x : Int} {st : Bool} (h : e.may = true) : (back e x st).1.may = true := by
  unfold back
  split
  · split
    · cases st
      · exact may_free
      · exact h
    · exact h
  · decide
theorem asked_lt {e : En} {k x : Int} (h : e.may = true) : (asked e k x).1 < 4294967296 := by
  have := (may_parts h).2.2.1
  unfold asked
  split
  · exact en.asks_lt e.o e.s k x (by omega)
  · decide

section
variable {c : Cfg} {H : Hm}
theorem Inv.answer (h : Inv c H) (b : Nat) : Inv c (answer H b).1 := by
  unfold hh.answer
  cases hj : jbOf H b with
  | none => exact h
  | some j =>
    have hjo := h.jobs b j (jbOf_get hj)
    refine ⟨h.may, by rw [List.length_set]; exact h.le, by rw [List.length_set]; exact h.lj, h.lm, h.rows, fun e he => ?_, jobs_set h (fun j' hj' => ?_), h.wait⟩
    · rcases mem_set he with he | rfl
      · exact h.ents e he
      · exact gets_may (asks_ask hjo.asks hjo.kind (ents_of h b))
    · cases hj'; exact ⟨hjo.asks, hjo.kind, hjo.blk, hjo.w, hjo.l⟩
theorem Inv.job (h : Inv c H) (b : Nat) (o : Option Jb) (ho : ∀ j, o = some j → JobOk c b j) : Inv c { H with jb := H.jb.set b o } :=
  ⟨h.may, h.le, by rw [List.length_set]; exact h.lj, h.lm, h.rows, h.ents, jobs_set h ho, h.wait⟩
theorem Inv.waits (h : Inv c H) (ws : List Nt) (hw : ∀ n ∈ ws, Asks c n) : Inv c { H with wt := ws } := ⟨h.may, h.le, h.lj, h.lm, h.rows, h.ents, h.jobs, hw⟩
theorem Inv.mem (h : Inv c H) (p : Bool) (b : Nat) (r : List Int) (hr : r.length = 16) : Inv c { H with mm := if p then H.mm.set b r else H.mm } := by
  cases p
  · exact h
  · refine ⟨h.may, h.le, h.lj, by show (H.mm.set b r).length = _; rw [List.length_set]; exact h.lm, fun x hx => ?_, h.ents, h.jobs, h.wait⟩
    rcases mem_set (show x ∈ H.mm.set b r from hx) with hx | rfl
    · exact h.rows x hx
    · exact hr
theorem Inv.begin1 (h : Inv c H) (n : Nt) (hn : Asks c n) : Inv c (begin1 H n).1 := by
  have hb := blk_lt hn.fits
  unfold hh.begin1
  split
  · have h1 : Inv c { H with mm := if (back (enOf H n.b.toNat) n.f n.q).2.1 then H.mm.set n.b.toNat n.d else H.mm } := h.mem _ _ _ n.hd
    refine ⟨h1.may, by rw [List.length_set]; exact h.le, h1.lj, h1.lm, h1.rows, fun e he => ?_, h1.jobs, h1.wait⟩
    rcases mem_set he with he | rfl
    · exact h.ents e he
    · exact back_may (ents_of h _)
  · rename_i hk3
    have hk : n.k = 1 ∨ n.k = 2 := by rcases asks_kind hn with e | e | e <;> omega
    have ok : ∀ w, w < 4294967296 → JobOk c n.b.toNat ⟨n, w, false, false, 0⟩ := fun w hw => ⟨hn, hk, by show n.b = _; omega, hw, ⟨Int.le_refl _, by show (0 : Int) < 18446744073709551616; decide⟩⟩
    split
    · exact (h.job _ _ fun j hj => by cases hj; exact ok 0 (by decide)).answer _
    · exact h.job _ _ fun j hj => by cases hj; exact ok _ (asked_lt (ents_of h _))
theorem begin1_wt (H : Hm) (n : Nt) : (hh.begin1 H n).1.wt = H.wt := by
  unfold hh.begin1
  split
  · rfl
  · split
    · unfold hh.answer; split <;> rfl
    · rfl
theorem Inv.run (b : Nat) : ∀ (rest : List Nt) (H : Hm) (pre : List Nt), Inv c H → (∀ n ∈ pre, Asks c n) → (∀ n ∈ rest, Asks c n) → Inv c (run b H pre rest).1
  | [], H, pre, h, hp, _ => h.waits pre hp
  | n :: rest, H, pre, h, hp, hr => by
    have hn := hr n (by simp)
    have hr' : ∀ m ∈ rest, Asks c m := fun m hm => hr m (by simp [hm])
    unfold hh.run
    split
    · exact h.waits _ fun m hm => by
        rcases List.mem_append.1 hm with hm | hm
        · exact hp m hm
        · exact hr m hm
    · split
      · exact Inv.run b rest _ pre (h.begin1 n hn) hp hr'
      · exact Inv.run b rest H (pre ++ [n]) h (fun m hm => by
          rcases List.mem_append.1 hm with hm | hm
          · exact hp m hm
          · rw [List.mem_singleton.1 hm]; exact hn) hr'
theorem Inv.fin (h : Inv c H) (b : Nat) : Inv c (fin H b).1 :=
  Inv.run b H.wt _ [] (h.job b none fun j hj => by cases hj) (fun n hn => by cases hn) h.wait
theorem Inv.noted (h : Inv c H) (n : Nt) (hn : fits c n) (j : Jb) (hj : jbOf H n.b.toNat = some j) (hst : 0 ≤ n.st ∧ n.st < 18446744073709551616) : Inv c { H with mm := if n.h then H.mm.set n.b.toNat n.d else H.mm, jb := H.jb.set n.b.toNat (some (noted j n)) } := by
  have hjo := h.jobs _ j (jbOf_get hj)
  have h1 : Inv c { H with mm := if n.h then H.mm.set n.b.toNat n.d else H.mm } := h.mem _ _ _ n.hd
  refine h1.job n.b.toNat (some (hh.noted j n)) fun j' hj' => ?_
  cases hj'
  refine ⟨hjo.asks, hjo.kind, hjo.blk, wo_lt _ _ hjo.w, ?_⟩
  unfold hh.noted
  dsimp only
  split
  · exact hst
  · exact hjo.l
/-- A note's stamp is a word. -/
def Word (n : Nt) : Prop := 0 ≤ n.st ∧ n.st < 18446744073709551616
theorem ready_fits {c : Cfg} {H : Hm} {n : Nt} (h : ready c H n = 0) : fits c n ∧ n.t = -1 := by
  unfold ready at h
  by_cases hf : ¬ fits c n ∨ n.t ≠ -1
  · rw [if_pos hf] at h; cases h
  · exact ⟨Classical.not_not.1 fun e => hf (.inl e), Classical.not_not.1 fun e => hf (.inr e)⟩
theorem Inv.take (h : Inv c H) (n : Nt) (hw : Word n) : Inv c (take c H n).1 := by
  unfold hh.take
  by_cases hr : ready c H n ≠ 0
  · rw [if_pos hr]; exact h
  · rw [if_neg hr]
    have hr0 : ready c H n = 0 := Classical.not_not.1 hr
    obtain ⟨hf, ht⟩ := ready_fits hr0
    by_cases hn : tt.net n.k = 0
    · rw [if_pos hn]
      have ha : Asks c n := ⟨hf, ht, hn⟩
      by_cases hj : (jbOf H n.b.toNat).isSome = true
      · rw [if_pos hj]
        exact h.waits _ fun m hm => by
          rcases List.mem_append.1 hm with hm | hm
          · exact h.wait m hm
          · rw [List.mem_singleton.1 hm]; exact ha
      · rw [if_neg hj]; exact h.begin1 n ha
    · rw [if_neg hn]
      by_cases hk : n.k = 11
      · rw [if_pos hk]; exact h.fin _
      · rw [if_neg hk]
        cases hj : jbOf H n.b.toNat with
        | none => exact h
        | some j =>
          have h1 := h.noted n hf j hj hw
          dsimp only
          split
          · exact h1
          · split
            · exact h1.fin _
            · exact h1.answer _
end
theorem new_inv (c : Cfg) (mm : List (List Int)) (hc : c.may) (hl : mm.length = c.bl.toNat) (hr : ∀ r ∈ mm, r.length = 16) : Inv c (new c mm) :=
  ⟨hc, List.length_replicate, List.length_replicate, hl, hr, fun e he => by rw [(List.mem_replicate.1 he).2]; exact may_free, fun b j hb => (by
    have := List.mem_replicate.1 (List.mem_of_getElem? hb)
    cases this.2), fun n hn => (by cases hn)⟩
end Go.Proofs.YtenhdijbcdkfbaaDoor.hh

namespace Go.Proofs.YtenhdijbcdkfbaaDoor.hh
open Go
open Go.Proofs.YtenhdijbcdkfbaaDoor.tt (Nt Cfg fits net bare zd usd uses coreOf ok_ends)
open Go.Proofs.YtenhdijbcdkfbaaDoor.en (En gets back asked asks free ask_parts may_parts)
open Go.Proofs.YtenhdijbcdkfbaaDoor.mm (wi wo ones wo_lt)
set_option linter.unusedVariables false

theorem dataN_parts (x b s : Int) (row : List Int) : (dataN x b s row).k = 6 ∧ (dataN x b s row).f = -1 ∧ (dataN x b s row).t = x ∧ (dataN x b s row).b = b ∧ (dataN x b s row).s = s ∧ (dataN x b s row).st = 0 := by
  unfold dataN
  split <;> exact ⟨rfl, rfl, rfl, rfl, rfl, rfl⟩
theorem ones_some {m : Nat} (h : m ≠ 0) (hm : m < 4294967296) : ones m ≠ [] := fun e => h (mm.ones_nil hm e)

/-- An ask begins in one of three ways. -/
theorem begin1_ways {c : Cfg} {H : Hm} (h : Inv c H) (n : Nt) (hn : Asks c n) :
    (n.k = 3 ∧ begin1 H n = ({ H with en := H.en.set n.b.toNat (back (enOf H n.b.toNat) n.f n.q).1, mm := if (back (enOf H n.b.toNat) n.f n.q).2.1 then H.mm.set n.b.toNat n.d else H.mm }, [bare 8 (-1) n.f n.b 0 0 false false])) ∨
    (n.k ≠ 3 ∧ (asked (enOf H n.b.toNat) n.k n.f).1 = 0 ∧ begin1 H n = ({ H with en := H.en.set n.b.toNat (gets (enOf H n.b.toNat) n.k n.f).1, jb := H.jb.set n.b.toNat (some ⟨n, 0, true, false, 0⟩) }, [dataN n.f n.b (gets (enOf H n.b.toNat) n.k n.f).2.1 (rowOf H n.b.toNat)])) ∨
    (n.k ≠ 3 ∧ (asked (enOf H n.b.toNat) n.k n.f).1 ≠ 0 ∧ begin1 H n = ({ H with jb := H.jb.set n.b.toNat (some ⟨n, (asked (enOf H n.b.toNat) n.k n.f).1, false, false, 0⟩) },
      (ones (asked (enOf H n.b.toNat) n.k n.f).1).map fun (x : Nat) => bare (asked (enOf H n.b.toNat) n.k n.f).2.1 (-1) (x : Int) n.b n.st 0 false false)) := by
  obtain ⟨hb0, hb⟩ := blk_lt hn.fits
  unfold begin1
  by_cases hk : n.k = 3
  · rw [if_pos hk]; exact .inl ⟨hk, rfl⟩
  · rw [if_neg hk]
    by_cases ha : (asked (enOf H n.b.toNat) n.k n.f).1 = 0
    · rw [if_pos ha]
      refine .inr (.inl ⟨hk, ha, ?_⟩)
      have hj : jbOf { H with jb := H.jb.set n.b.toNat (some ⟨n, 0, false, false, 0⟩) } n.b.toNat = some ⟨n, 0, false, false, 0⟩ := by
        apply get_jbOf
        show (H.jb.set n.b.toNat _)[n.b.toNat]? = _
        rw [List.getElem?_set_self (by rw [h.lj]; exact hb)]
      unfold answer
      rw [hj]
      have hbb : ((n.b.toNat : Nat) : Int) = n.b := by omega
      simp [enOf, rowOf, hbb]
    · rw [if_neg ha]; exact .inr (.inr ⟨hk, ha, rfl⟩)

/-- What goes out is about the block, and from the home. -/
def Of (b : Int) (out : List Nt) : Prop := ∀ x ∈ out, x.f = -1 ∧ x.b = b
theorem begin1_of {c : Cfg} {H : Hm} (h : Inv c H) (n : Nt) (hn : Asks c n) : Of n.b (begin1 H n).2 ∧ (begin1 H n).2 ≠ [] := by
  rcases begin1_ways h n hn with ⟨_, e⟩ | ⟨_, _, e⟩ | ⟨_, ha, e⟩
  · rw [e]; exact ⟨fun x hx => by rw [List.mem_singleton.1 hx]; exact ⟨rfl, rfl⟩, by simp⟩
  · rw [e]; exact ⟨fun x hx => by rw [List.mem_singleton.1 hx]; exact ⟨(dataN_parts _ _ _ _).2.1, (dataN_parts _ _ _ _).2.2.2.1⟩, by simp⟩
  · rw [e]
    refine ⟨fun x hx => ?_, ?_⟩
    · obtain ⟨y, _, rfl⟩ := List.mem_map.1 hx; exact ⟨rfl, rfl⟩
    · intro e'
      exact ones_some ha (asked_lt (ents_of h _)) (List.map_eq_nil_iff.1 e')
theorem answer_of (H : Hm) (b : Nat) : Of (b : Int) (answer H b).2 := by
  unfold answer
  split
  · exact fun x hx => by cases hx
  · exact fun x hx => by rw [List.mem_singleton.1 hx]; exact ⟨(dataN_parts _ _ _ _).2.1, (dataN_parts _ _ _ _).2.2.2.1⟩
theorem run_of {c : Cfg} (b : Nat) : ∀ (rest : List Nt) (H : Hm) (pre : List Nt), Inv c H → (∀ n ∈ rest, Asks c n) → Of (b : Int) (run b H pre rest).2
  | [], H, pre, h, hr => fun x hx => by cases hx
  | n :: rest, H, pre, h, hr => by
    have hn := hr n (by simp)
    have hr' : ∀ m ∈ rest, Asks c m := fun m hm => hr m (by simp [hm])
    unfold run
    split
    · exact fun x hx => by cases hx
    · split
      · rename_i hb
        have h1 := (begin1_of h n hn).1
        rw [hb] at h1
        intro x hx
        rcases List.mem_append.1 hx with hx | hx
        · exact h1 x hx
        · exact run_of b rest _ pre (h.begin1 n hn) hr' x hx
      · exact run_of b rest H (pre ++ [n]) h hr'
theorem run_busy (b : Nat) (H : Hm) (pre rest : List Nt) (h : (jbOf H b).isSome = true) : run b H pre rest = ({ H with wt := pre ++ rest }, []) := by
  cases rest with
  | nil => unfold run; simp
  | cons n rest => unfold run; rw [if_pos h]


end Go.Proofs.YtenhdijbcdkfbaaDoor.hh

namespace Go.Proofs.YtenhdijbcdkfbaaDoor.hh
open Go
open Go.Proofs.YtenhdijbcdkfbaaDoor.tt (Nt Cfg fits net bare zd usd uses coreOf ok_ends)
open Go.Proofs.YtenhdijbcdkfbaaDoor.en (En gets back asked asks free ask_parts may_parts)
open Go.Proofs.YtenhdijbcdkfbaaDoor.mm (wi wo ones wo_lt)
set_option linter.unusedVariables false

theorem begin1_with (H : Hm) (n : Nt) (x : List Nt) : begin1 { H with wt := x } n = ({ (begin1 H n).1 with wt := x }, (begin1 H n).2) := by
  unfold begin1
  by_cases h3 : n.k = 3
  · rw [if_pos h3, if_pos h3]; rfl
  · rw [if_neg h3, if_neg h3]
    by_cases ha : (asked (enOf H n.b.toNat) n.k n.f).1 = 0
    · have ha' : (asked (enOf { H with wt := x } n.b.toNat) n.k n.f).1 = 0 := ha
      rw [if_pos ha, if_pos ha']
      unfold answer jbOf
      cases h : (H.jb.set n.b.toNat (some ⟨n, 0, false, false, 0⟩)).getD n.b.toNat none with
      | none => simp only
      | some j => simp only; rfl
    · have ha' : (asked (enOf { H with wt := x } n.b.toNat) n.k n.f).1 ≠ 0 := ha
      rw [if_neg ha, if_neg ha']; rfl
theorem run_with (b : Nat) (x : List Nt) : ∀ (rest : List Nt) (H : Hm) (pre : List Nt), run b { H with wt := x } pre rest = run b H pre rest
  | [], H, pre => rfl
  | n :: rest, H, pre => by
    unfold run
    have hj : jbOf { H with wt := x } b = jbOf H b := rfl
    rw [hj]
    by_cases h : (jbOf H b).isSome = true
    · rw [if_pos h, if_pos h]
    · rw [if_neg h, if_neg h]
      by_cases hb : n.b = (b : Int)
      · rw [if_pos hb, if_pos hb, begin1_with]
        dsimp only
        rw [run_with b x rest]
      · rw [if_neg hb, if_neg hb, run_with b x rest]
theorem run_skip (b : Nat) (H : Hm) (hn : jbOf H b = none) : ∀ (l1 rest pre : List Nt), (∀ m ∈ l1, m.b ≠ (b : Int)) → run b H pre (l1 ++ rest) = run b H (pre ++ l1) rest
  | [], rest, pre, h => by simp
  | m :: l1, rest, pre, h => by
    rw [List.cons_append, run, hn]
    rw [if_neg (by simp), if_neg (h m (by simp)), run_skip b H hn l1 rest (pre ++ [m]) (fun x hx => h x (by simp [hx]))]
    simp
/-- Nobody waits about the block, or one of it is under way. -/
theorem run_end (b : Nat) (H : Hm) (h : (∀ m ∈ H.wt, m.b ≠ (b : Int)) ∨ (jbOf H b).isSome = true) : run b H [] H.wt = (H, []) := by
  by_cases hs : (jbOf H b).isSome = true
  · cases hw : H.wt with
    | nil => unfold run; rw [← hw]
    | cons n r => rw [run, if_pos hs]; simp [← hw]
  · have hn : jbOf H b = none := by simpa using hs
    have h1 := h.resolve_right hs
    have := run_skip b H hn H.wt [] [] h1
    rw [List.append_nil] at this
    rw [this, run]
    simp
/-- The first one that waits about the block begins. -/
theorem run_first (b : Nat) (H : Hm) (hn : jbOf H b = none) (l1 l2 : List Nt) (n : Nt) (hw : H.wt = l1 ++ n :: l2) (h1 : ∀ m ∈ l1, m.b ≠ (b : Int)) (hb : n.b = (b : Int)) (r : Hm × List Nt) (hr : r = begin1 { H with wt := l1 ++ l2 } n) :
    run b H [] H.wt = ((run b r.1 [] r.1.wt).1, r.2 ++ (run b r.1 [] r.1.wt).2) := by
  have hb1 : r.1 = { (begin1 H n).1 with wt := l1 ++ l2 } := by rw [hr, begin1_with]
  have hb2 : r.2 = (begin1 H n).2 := by rw [hr, begin1_with]
  have e1 : run b H [] H.wt = ((run b (begin1 H n).1 l1 l2).1, (begin1 H n).2 ++ (run b (begin1 H n).1 l1 l2).2) := by
    rw [hw, run_skip b H hn l1 (n :: l2) [] h1, List.nil_append, run, hn]
    rw [if_neg (by simp), if_pos hb]
  have e2 : run b r.1 [] r.1.wt = run b (begin1 H n).1 l1 l2 := by
    rw [hb1]
    show run b { (begin1 H n).1 with wt := l1 ++ l2 } [] (l1 ++ l2) = _
    rw [run_with]
    by_cases hs : (jbOf (begin1 H n).1 b).isSome = true
    · rw [run_busy b _ _ _ hs, run_busy b _ _ _ hs, List.nil_append]
    · have hn' : jbOf (begin1 H n).1 b = none := by simpa using hs
      rw [run_skip b _ hn' l1 l2 [] h1, List.nil_append]
  rw [e1, e2, hb2]
end Go.Proofs.YtenhdijbcdkfbaaDoor.hh
