/-
  What there is of memory while the law PoolPlays goes on: the pool, the document's pool, and the variables that are boxed. No condition but what each theorem names.
-/
import Derived.Test.YtkamafkajfajpaaC12
import Derived.Test.YtkamafkajfajpaaC14
namespace Go.Proofs.Ytkamafkajfajpaa.pp
open Go Go.RowKit Go.Shelf
set_option linter.unusedVariables false

theorem pool_alloc {w w' : World} {T e : TypeId} {b room : Nat} {v : Value} {xs : List Value} {o : Obj} (h : Pool w T e b v room xs) (hw : w' = w.alloc o) : Pool w' T e b v room xs := by
  subst hw; exact Pool.alloc h o

theorem tyne {W : World} {i j : Nat} {c1 c2 : Array Value} {t1 t2 : TypeId} {f1 f2 : Nat × Nat} (h1 : W.heap[i]? = some (.cells c1 t1 f1)) (h2 : W.heap[j]? = some (.cells c2 t2 f2)) (ht : t1 ≠ t2) : i ≠ j := fun e => by
  subst e; rw [h1] at h2; cases h2; exact ht rfl
theorem Sl.tyne {W : World} {i : Nat} {c : Array Value} {t e : TypeId} {f : Nat × Nat} {v : Value} {xs : List Value} (hs : Sl W e v xs) (h : W.heap[i]? = some (.cells c t f)) (ht : t ≠ e) : some i ≠ v.ownBlock := fun e' => by
  rcases hs with ⟨rfl, _⟩ | ⟨g, off, cap, cur, rfl, hb, _⟩
  · simp [Value.ownBlock] at e'
  · simp [Value.ownBlock] at e'; subst e'; rw [hb] at h; cases h; exact ht rfl

/-- The pool in block b with the things xs, the document's in block mb with the things ys, its variable's box, the result's box. -/
structure St (w0 W : World) (R0 M0 mb room b : Nat) (v mv : Value) (xs ys : List Int) : Prop where
  r : Boxed W R0 4 (.bool false)
  mm : Boxed W M0 34 (.pointer (some ⟨mb, 0, none⟩))
  p : IPool W b v room xs
  m : RPool W mb mv room ys
  lenx : xs.length ≤ room
  leny : ys.length ≤ room
  below : Below w0.heap.size w0 W
  hb : w0.heap.size ≤ b
  hmb : w0.heap.size ≤ mb
  hv : ∀ k, v.ownBlock = some k → w0.heap.size ≤ k
  hmv : ∀ k, mv.ownBlock = some k → w0.heap.size ≤ k
  dis : v.ownBlock = none ∨ v.ownBlock ≠ mv.ownBlock

theorem dis_next {W W' : World} {v v' u : Value} {e : TypeId} {xs : List Value} (h : v.ownBlock = none ∨ v.ownBlock ≠ u.ownBlock) (hn : Next W W' v v') (hu : Sl W e u xs) : v'.ownBlock = none ∨ v'.ownBlock ≠ u.ownBlock := by
  rcases hn with e | e
  · rw [e]; exact h
  · cases hv : v'.ownBlock with
    | none => exact .inl rfl
    | some g => exact .inr fun e2 => by have := hu.lt g e2.symm; have := e g hv; omega
theorem dis_symm {v u : Value} (h : v.ownBlock = none ∨ v.ownBlock ≠ u.ownBlock) : u.ownBlock = none ∨ u.ownBlock ≠ v.ownBlock := by
  cases hu : u.ownBlock with
  | none => exact .inl rfl
  | some g => refine .inr fun e => ?_
              rcases h with h | h
              · rw [h] at e; cases e
              · exact h (by rw [hu, e])

section
variable {w0 W W' : World} {R0 M0 mb room b : Nat} {v v' mv mv' : Value} {xs ys xs' ys' : List Int}

theorem St.turnP (h : St w0 W R0 M0 mb room b v mv xs ys) (hT : Turn W W' b v v') (hp : IPool W' b v' room xs') (hl : xs'.length ≤ room) : St w0 W' R0 M0 mb room b v' mv xs' ys := by
  have hws := h.below.size
  obtain ⟨h1, h2⟩ := Turn.on h.below hT hws h.hb h.hv
  exact ⟨h.r.turn hT (tyne h.r h.p.blk (by decide)) (h.p.sl.tyne h.r (by decide)), h.mm.turn hT (tyne h.mm h.p.blk (by decide)) (h.p.sl.tyne h.mm (by decide)), hp,
    h.m.of_block (hT.block mb h.m.lt (tyne h.m.blk h.p.blk (by decide)) (h.p.sl.tyne h.m.blk (by decide))) fun g hg => hT.block g (h.m.sl.lt g hg) (fun e => by subst e; exact h.m.sl.tyne h.p.blk (by decide) hg.symm) (fun e => by
      rcases h.dis with d | d
      · rw [d] at e; cases e
      · exact d (by rw [← e, hg])), hl, h.leny, h1, h.hb, h.hmb, h2, h.hmv, dis_next h.dis hT.next h.m.sl⟩
theorem St.turnM (h : St w0 W R0 M0 mb room b v mv xs ys) (hT : Turn W W' mb mv mv') (hm : RPool W' mb mv' room ys') (hl : ys'.length ≤ room) : St w0 W' R0 M0 mb room b v mv' xs ys' := by
  have hws := h.below.size
  obtain ⟨h1, h2⟩ := Turn.on h.below hT hws h.hmb h.hmv
  exact ⟨h.r.turn hT (tyne h.r h.m.blk (by decide)) (h.m.sl.tyne h.r (by decide)), h.mm.turn hT (tyne h.mm h.m.blk (by decide)) (h.m.sl.tyne h.mm (by decide)),
    h.p.of_block (hT.block b h.p.lt (tyne h.p.blk h.m.blk (by decide)) (h.m.sl.tyne h.p.blk (by decide))) (fun g hg => hT.block g (h.p.sl.lt g hg) (fun e => by subst e; exact h.p.sl.tyne h.m.blk (by decide) hg.symm) (fun e => by
      rcases h.dis with d | d
      · rw [d] at hg; cases hg
      · exact d (by rw [hg, e]))), hm, h.lenx, hl, h1, h.hb, h.hmb, h.hv, h2, dis_symm (dis_next (dis_symm h.dis) hT.next h.p.sl)⟩
/-- Whatever is new. -/
theorem St.more (h : St w0 W R0 M0 mb room b v mv xs ys) (hB : Below W.heap.size W W') : St w0 W' R0 M0 mb room b v mv xs ys :=
  ⟨h.r.below hB (Go.Boxed.lt h.r), h.mm.below hB (Go.Boxed.lt h.mm), h.p.of_block (hB.block b h.p.lt) (fun g hg => hB.block g (h.p.sl.lt g hg)), h.m.of_block (hB.block mb h.m.lt) (fun g hg => hB.block g (h.m.sl.lt g hg)), h.lenx, h.leny,
    h.below.trans (hB.mono h.below.size), h.hb, h.hmb, h.hv, h.hmv, h.dis⟩
theorem St.drewN (h : St w0 W R0 M0 mb room b v mv xs ys) (n : Nat) : St w0 (W.drewN n) R0 M0 mb room b v mv xs ys :=
  h.more (below_drewN (Below.refl _ _) n)
/-- The copy goes on in the pool's place. -/
theorem St.swap {b' : Nat} (h : St w0 W R0 M0 mb room b v mv xs' ys) (hp : IPool W b' v' room xs) (hl : xs.length ≤ room) (hb : w0.heap.size ≤ b') (hv : ∀ k, v'.ownBlock = some k → w0.heap.size ≤ k) (hd : v'.ownBlock = none ∨ v'.ownBlock ≠ mv.ownBlock) : St w0 W R0 M0 mb room b' v' mv xs ys :=
  ⟨h.r, h.mm, hp, h.m, hl, h.leny, h.below, hb, h.hmb, hv, h.hmv, hd⟩
end

/-- A pool beside the one that is turned. -/
theorem Pool.turn {W W' : World} {T e : TypeId} {b b' room : Nat} {v v1 u : Value} {xs : List Value} (h : Pool W T e b' u room xs) (hT : Turn W W' b v v1) (hb : b' ≠ b) (hv : some b' ≠ v.ownBlock) (hb2 : some b ≠ u.ownBlock) (hd : u.ownBlock = none ∨ u.ownBlock ≠ v.ownBlock) : Pool W' T e b' u room xs :=
  h.of_block (hT.block b' h.lt hb hv) fun g hg => hT.block g (h.sl.lt g hg) (fun e => hb2 (by rw [hg, e])) (fun e => by
    rcases hd with d | d
    · rw [d] at hg; cases hg
    · exact d (by rw [hg, e]))

/-- A copy was made, the pool went on, and then the copy took its place. -/
theorem St.copied {w0 W w4 w5 w6 : World} {R0 M0 mb room b b' : Nat} {v v' v5 v6 mv : Value} {xs ys ys5 ys6 : List Int} (h : St w0 W R0 M0 mb room b v mv xs ys) (hg : W.grownBy w4 none) (hb' : W.heap.size ≤ b') (hp' : IPool w4 b' v' room xs) (hv' : ∀ k, v'.ownBlock = some k → W.heap.size ≤ k)
    (h5 : Turn w4 w5 b v v5) (p5 : IPool w5 b v5 room ys5) (l5 : ys5.length ≤ room) (h6 : Turn w5 w6 b v5 v6) (p6 : IPool w6 b v6 room ys6) (l6 : ys6.length ≤ room) : St w0 w6 R0 M0 mb room b' v' mv xs ys := by
  have hbl := h.p.lt
  have s4 := h.more ((Below.refl W.heap.size W).grown hg (Nat.le_refl _) (fun k e => by cases e))
  have s5 := s4.turnP h5 p5 l5
  have s6 := s5.turnP h6 p6 l6
  have d1 : v'.ownBlock = none ∨ v'.ownBlock ≠ v.ownBlock := by
    cases e : v'.ownBlock with
    | none => exact .inl rfl
    | some g => exact .inr fun e2 => by have := h.p.sl.lt g e2.symm; have := hv' g e; omega
  have d2 : v'.ownBlock = none ∨ v'.ownBlock ≠ mv.ownBlock := by
    cases e : v'.ownBlock with
    | none => exact .inl rfl
    | some g => exact .inr fun e2 => by have := h.m.sl.lt g e2.symm; have := hv' g e; omega
  have hne : b' ≠ b := by omega
  have q5 := Pool.turn hp' h5 hne (s4.p.sl.tyne hp'.blk (by decide)) (hp'.sl.tyne s4.p.blk (by decide)) d1
  have q6 := Pool.turn q5 h6 hne (s5.p.sl.tyne q5.blk (by decide)) (q5.sl.tyne s5.p.blk (by decide)) (dis_symm (dis_next (dis_symm d1) h5.next hp'.sl))
  have hs := h.below.size
  exact s6.swap q6 h.lenx (by omega) (fun k hk => by have := hv' k hk; omega) d2
end Go.Proofs.Ytkamafkajfajpaa.pp
