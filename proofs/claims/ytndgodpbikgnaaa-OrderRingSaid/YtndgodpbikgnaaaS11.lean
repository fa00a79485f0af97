/-
  slices.Clone and slices.Compact at stamps (the shelf's contracts, at this program's numbers), what a sorted row tells of the row it was made of. No condition but the bounds that each theorem names.
-/
import Derived.Test.YtndgodpbikgnaaaS10
import Derived.Shelf.SlicesE.Compact
import Derived.Shelf.SlicesE.Clone
namespace Go.Proofs.Ytndgodpbikgnaaa.srt
open Go Go.Shelf Go.RowKit Go.Sort
set_option linter.unusedVariables false

def compA_ren : Go.Shelf.Ren := ⟨fun | 43 => 17 | n => n, fun | 22 => 29 | 23 => 24 | 3 => 3 | 4 => 4 | 0 => 0 | n => n, fun | n => n⟩
theorem compA : Go.Proofs.SlLaysE.n43 Try.prog compA_ren := {
  mixed := by kernel_rfl
  f43 := ⟨Try.f17.name, by decide, Try.func17.trans (congrArg some (by kernel_rfl))⟩
  t0 := Try.underlying0
  a0 := Try.isAgg0
  z0 := Try.sizeOf0
  v0 := Try.zeroValue0
  t3 := Try.underlying3
  a3 := Try.isAgg3
  z3 := Try.sizeOf3
  v3 := Try.zeroValue3
  t4 := Try.underlying4
  a4 := Try.isAgg4
  z4 := Try.sizeOf4
  v4 := Try.zeroValue4
  t22 := Try.underlying29
  a22 := Try.isAgg29
  z22 := Try.sizeOf29
  v22 := Try.zeroValue29
  a23 := Try.isAgg24
  z23 := Try.sizeOf24 }
def cloneA_ren : Go.Shelf.Ren := ⟨fun | 41 => 15 | n => n, fun | 22 => 29 | 23 => 24 | 4 => 4 | n => n, fun | n => n⟩
theorem cloneA : Go.Proofs.SlLaysE0.n41 Try.prog cloneA_ren := {
  mixed := by kernel_rfl
  f41 := ⟨Try.f15.name, by decide, Try.func15.trans (congrArg some (by kernel_rfl))⟩
  t4 := Try.underlying4
  a4 := Try.isAgg4
  z4 := Try.sizeOf4
  v4 := Try.zeroValue4
  t22 := Try.underlying29
  a22 := Try.isAgg29
  z22 := Try.sizeOf29
  v22 := Try.zeroValue29 }

theorem grown_of_below {w w' : World} (h : Below w.heap.size w w') : w.grownBy w' none := ⟨h.os, h.tape, h.output, h.size, fun k hk _ => h.block k hk⟩

theorem info24' : (Try.prog.info? 24).map (fun i => (i.zero, i.size, i.bytes)) = some (some (.int .u64 0), 1, 8) := by kernel_rfl
theorem info24 : ∃ i, Try.prog.info? 24 = some i ∧ i.zero = some (.int .u64 0) ∧ i.size = 1 ∧ i.bytes = 8 := by
  have h := info24'
  cases hi : Try.prog.info? 24 with
  | none => rw [hi] at h; cases h
  | some i => rw [hi] at h; simp at h; exact ⟨i, rfl, h⟩

/-- slices.Clone: a row of its own, of the same stamps. -/
theorem clone (b off n c : Nat) (d : Array Int) (w : World) (hn : n ≤ 1000) (h0 : 0 < n) (hd : d.size = n) (hc : ∀ k, k < n → w.cell? ⟨b, off + k, none⟩ = some (E d[k]!)) :
    Calls Try.prog 15 #[.slice (some ⟨b, off, none⟩) n c] w fun e w' => ∃ g cap : Nat, e = .returned (.slice (some ⟨g, 0, none⟩) n cap) ∧ w.heap.size ≤ g ∧ n ≤ cap ∧ w.grownBy w' none ∧ S g 0 n w' d w' := by
  obtain ⟨i, hi, hz, hs, hb⟩ := info24
  have hnew : (d.toList.map E).length = n * 1 := by simp [hd]
  have h := AnyE.slices_Clone cloneA i (.int .u64 0) 1 8 hi hz hs hb rfl (by omega) (fun w => Try.sizeOf24 w) b off n c (d.toList.map E) w hnew (by simp only [maxLen]; omega) (by omega)
    (fun j u hj => by
      rw [List.getElem?_map, Option.map_eq_some_iff] at hj
      obtain ⟨x, hx, rfl⟩ := hj
      rw [Array.getElem?_toList] at hx
      obtain ⟨hlt, hx⟩ := Array.getElem?_eq_some_iff.1 hx
      rw [hc j (by omega), getElem!_pos d j hlt, hx])
    (fun u hu => by
      obtain ⟨x, _, rfl⟩ := List.mem_map.1 hu
      rfl)
  refine Calls.mono h fun e w' ⟨v', he, ho, hne, hbl⟩ => ?_
  have hg := grown_of_below hbl
  obtain ⟨hl, hcs⟩ := ho
  rcases hcs with ⟨_, h00⟩ | ⟨g, cap, cur, hv, hbg, hg2, h1, h2, h3, h4⟩
  · omega
  · refine ⟨g, cap, by rw [he, hv], hbg, h1, hg, grown_refl _ _, fun j hj => ?_, hd, (Array.getElem?_eq_some_iff.1 hg2).1⟩
    have hj' : j < n := by omega
    have e : cur.toList[j]? = some (E d[j]!) := by
      have : (cur.toList.take (n * 1))[j]? = (d.toList.map E)[j]? := by rw [h4]
      rw [List.getElem?_take, if_pos (by omega), List.getElem?_map] at this
      rw [this, getElem!_pos d j hj]; simp [hj]
    rw [Array.getElem?_toList] at e
    refine ⟨?_, ?_⟩
    · rw [Nat.zero_add]; simp [World.cell?, hg2, e]
    · rw [Nat.zero_add]; simp [World.frozen?, hg2]

theorem grown_putRow (w : World) (q blk off : Nat) (d : Array Int) : w.grownBy (putRow E (Go.Sort.ahead w q) blk off d) (some blk) := by
  refine ⟨rfl, rfl, rfl, by simp [putRow, mapBlock, Go.Sort.ahead], fun k hk hn => ?_⟩
  have hne : blk ≠ k := fun e => hn (by rw [e])
  show (w.heap.modify blk _)[k]? = w.heap[k]?
  rw [Array.getElem?_eq_getElem (by simpa using hk), Array.getElem?_eq_getElem hk, Array.getElem_modify_of_ne hne]

/-- slices.Compact: as many as are no neighbour's. -/
theorem compact (blk n cap : Nat) (d : Array Int) (w : World) (hS : S blk 0 n w d w) (hcap : n ≤ cap) (hn : n ≤ 1000) :
    Calls Try.prog 17 #[.slice (some ⟨blk, 0, none⟩) n cap] w fun e w' => e = .returned (.slice (some ⟨blk, 0, none⟩) (Lib.compactUpTo d n).length cap) ∧ w.grownBy w' (some blk) := by
  have hd := hS.size
  subst hd
  refine Calls.mono (AnyE.slices_Compact compA E (fun x => rfl) (EqlAt.intD _ _ _) (NeqAt.intD _ _ _) 0 (fun w => Try.zeroValue24 w) blk 0 cap d w hS.holds (by omega) hcap) fun e w' ⟨he, q, hw⟩ => ⟨he, ?_⟩
  rw [hw]
  exact grown_putRow _ _ _ _ _

section
variable {n : Nat} {d d' : Array Int}
theorem perm_list (hd : d.size = n) (h : PermIn 0 n d d') : d'.toList.Perm d.toList := by
  have h2 := h.2.2
  have e1 : d.extract 0 n = d := by rw [← hd]; simp
  have e2 : d'.extract 0 n = d' := by rw [← hd, ← h.1]; simp
  rwa [e1, e2] at h2
/-- The first one of the sorted row is not greater than any. -/
theorem first_least (hd : d.size = n) (h : PermIn 0 n d d') (hs : SortedIn ltInt 0 n d') : ∀ x ∈ d.toList, d'[0]! ≤ x := by
  intro x hx
  have hx' := (perm_list hd h).mem_iff.2 hx
  obtain ⟨j, hj, rfl⟩ := List.getElem_of_mem hx'
  have hz := h.1
  simp only [Array.length_toList] at hj
  rw [Array.getElem_toList, ← getElem!_pos d' j hj]
  by_cases h0 : j = 0
  · subst h0; exact Int.le_refl _
  · have := hs 0 j (Nat.le_refl _) (by omega) (by omega)
    simp [ltInt] at this
    exact this
/-- Where nothing is compacted all are unlike. -/
theorem all_kept (h : (Lib.compactUpTo d' n).length = n) : ∀ j, j < n → Lib.keeps d' j = true := by
  unfold Lib.compactUpTo at h
  rw [List.length_map] at h
  have h2 : ((List.range n).filter (Lib.keeps d')).length = (List.range n).length := by rw [h]; simp
  have h3 := List.length_filter_eq_length_iff.1 h2
  exact fun j hj => h3 j (List.mem_range.2 hj)
theorem unlike (hd : d.size = n) (h : PermIn 0 n d d') (hs : SortedIn ltInt 0 n d') (hc : (Lib.compactUpTo d' n).length = n) : d.toList.Nodup := by
  have hz : d'.size = n := h.1.trans hd
  have hk := all_kept hc
  have hlt : ∀ j, j + 1 < n → d'[j]! < d'[j + 1]! := fun j hj => by
    have h1 := hs j (j + 1) (Nat.zero_le _) (by omega) hj
    have h2 := hk (j + 1) hj
    simp [ltInt, Lib.keeps] at h1 h2
    omega
  have hlt2 : ∀ k j, j + 1 + k < n → d'[j]! < d'[j + 1 + k]! := by
    intro k
    induction k with
    | zero => exact fun j hj => hlt j hj
    | succ k ih => exact fun j hj => Int.lt_trans (ih j (by omega)) (hlt (j + 1 + k) (by omega))
  refine (perm_list hd h).nodup_iff.1 ?_
  rw [List.nodup_iff_pairwise_ne, List.pairwise_iff_getElem]
  intro i j hi hj hij e
  simp only [Array.length_toList] at hi hj
  rw [Array.getElem_toList, Array.getElem_toList, ← getElem!_pos d' i hi, ← getElem!_pos d' j hj] at e
  have := hlt2 (j - (i + 1)) i (by omega)
  rw [show i + 1 + (j - (i + 1)) = j by omega] at this
  omega
end
end Go.Proofs.Ytndgodpbikgnaaa.srt
