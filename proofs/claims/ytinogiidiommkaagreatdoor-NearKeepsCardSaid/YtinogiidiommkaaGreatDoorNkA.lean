/-
  The loop of the law NearKeeps, taken out of the translation; its invariant; the loop over what goes out. Conditions: the tables of bounds and of kinds lie in their variables as the program's text has them; that the script lies where the argument says.
-/
import Derived.Test.YtinogiidiommkaaGreatDoorGl
import Derived.Test.YtinogiidiommkaaGreatDoorNlV
import Derived.Test.YtinogiidiommkaaGreatDoorNrD
namespace Go.Proofs.YtinogiidiommkaaGreatDoor.nl
open Go Go.ChangeShapes Go.WideShapes Go.ChangeAt Go.RowKit Go.Shelf
open Go.Proofs.YtinogiidiommkaaGreatDoor.nr
open Go.Proofs.YtinogiidiommkaaGreatDoor.tt (OpX opc OpsAt cfg_at CfgAt Cfg Nt na nt zn bare zd fits row tyne lt_of U Tab TabK grown_refl grown_trans grown_alloc grown_setCells grown_drew grown_drewN yes Sl Next flat)
open Go.Proofs.YtinogiidiommkaaGreatDoor.kk (Ln St zl la ln cfind cdrop cuse cgoes cwrite cturn cput setAt setOf live fF Shp Cac Kept)
open Go.Proofs.YtinogiidiommkaaGreatDoor.bk (Bk rem kills puts putE fd fl Nd Rg dead fresh BkAt)
open Go.Proofs.YtinogiidiommkaaGreatDoor.mrk (Ms rdS wrS meets addE Dom MkAt)
open Go.Proofs.YtinogiidiommkaaGreatDoor.de (Dl sT gE rF aD LAt)
open Go.Proofs.YtinogiidiommkaaGreatDoor.oo (ref)
open Go.Proofs.YtinogiidiommkaaGreatDoor.gl
set_option linter.unusedVariables false
set_option maxRecDepth 1000000
set_option maxHeartbeats 16000000

theorem lit263 (u : Nat → Value) : ((List.range 263).map u).toArray = #[u 0, u 1, u 2, u 3, u 4, u 5, u 6, u 7, u 8, u 9, u 10, u 11, u 12, u 13, u 14, u 15, u 16, u 17, u 18, u 19, u 20, u 21, u 22, u 23, u 24, u 25, u 26, u 27, u 28, u 29, u 30, u 31, u 32, u 33, u 34, u 35, u 36, u 37, u 38, u 39, u 40, u 41, u 42, u 43, u 44, u 45, u 46, u 47, u 48, u 49, u 50, u 51, u 52, u 53, u 54, u 55, u 56, u 57, u 58, u 59, u 60, u 61, u 62, u 63, u 64, u 65, u 66, u 67, u 68, u 69, u 70, u 71, u 72, u 73, u 74, u 75, u 76, u 77, u 78, u 79, u 80, u 81, u 82, u 83, u 84, u 85, u 86, u 87, u 88, u 89, u 90, u 91, u 92, u 93, u 94, u 95, u 96, u 97, u 98, u 99, u 100, u 101, u 102, u 103, u 104, u 105, u 106, u 107, u 108, u 109, u 110, u 111, u 112, u 113, u 114, u 115, u 116, u 117, u 118, u 119, u 120, u 121, u 122, u 123, u 124, u 125, u 126, u 127, u 128, u 129, u 130, u 131, u 132, u 133, u 134, u 135, u 136, u 137, u 138, u 139, u 140, u 141, u 142, u 143, u 144, u 145, u 146, u 147, u 148, u 149, u 150, u 151, u 152, u 153, u 154, u 155, u 156, u 157, u 158, u 159, u 160, u 161, u 162, u 163, u 164, u 165, u 166, u 167, u 168, u 169, u 170, u 171, u 172, u 173, u 174, u 175, u 176, u 177, u 178, u 179, u 180, u 181, u 182, u 183, u 184, u 185, u 186, u 187, u 188, u 189, u 190, u 191, u 192, u 193, u 194, u 195, u 196, u 197, u 198, u 199, u 200, u 201, u 202, u 203, u 204, u 205, u 206, u 207, u 208, u 209, u 210, u 211, u 212, u 213, u 214, u 215, u 216, u 217, u 218, u 219, u 220, u 221, u 222, u 223, u 224, u 225, u 226, u 227, u 228, u 229, u 230, u 231, u 232, u 233, u 234, u 235, u 236, u 237, u 238, u 239, u 240, u 241, u 242, u 243, u 244, u 245, u 246, u 247, u 248, u 249, u 250, u 251, u 252, u 253, u 254, u 255, u 256, u 257, u 258, u 259, u 260, u 261, u 262] := rfl
theorem lit263_of {a : Act} (hs : a.tmps.size = 263) (hd : a.defers = []) : ∃ u : Nat → Value, a = ⟨#[u 0, u 1, u 2, u 3, u 4, u 5, u 6, u 7, u 8, u 9, u 10, u 11, u 12, u 13, u 14, u 15, u 16, u 17, u 18, u 19, u 20, u 21, u 22, u 23, u 24, u 25, u 26, u 27, u 28, u 29, u 30, u 31, u 32, u 33, u 34, u 35, u 36, u 37, u 38, u 39, u 40, u 41, u 42, u 43, u 44, u 45, u 46, u 47, u 48, u 49, u 50, u 51, u 52, u 53, u 54, u 55, u 56, u 57, u 58, u 59, u 60, u 61, u 62, u 63, u 64, u 65, u 66, u 67, u 68, u 69, u 70, u 71, u 72, u 73, u 74, u 75, u 76, u 77, u 78, u 79, u 80, u 81, u 82, u 83, u 84, u 85, u 86, u 87, u 88, u 89, u 90, u 91, u 92, u 93, u 94, u 95, u 96, u 97, u 98, u 99, u 100, u 101, u 102, u 103, u 104, u 105, u 106, u 107, u 108, u 109, u 110, u 111, u 112, u 113, u 114, u 115, u 116, u 117, u 118, u 119, u 120, u 121, u 122, u 123, u 124, u 125, u 126, u 127, u 128, u 129, u 130, u 131, u 132, u 133, u 134, u 135, u 136, u 137, u 138, u 139, u 140, u 141, u 142, u 143, u 144, u 145, u 146, u 147, u 148, u 149, u 150, u 151, u 152, u 153, u 154, u 155, u 156, u 157, u 158, u 159, u 160, u 161, u 162, u 163, u 164, u 165, u 166, u 167, u 168, u 169, u 170, u 171, u 172, u 173, u 174, u 175, u 176, u 177, u 178, u 179, u 180, u 181, u 182, u 183, u 184, u 185, u 186, u 187, u 188, u 189, u 190, u 191, u 192, u 193, u 194, u 195, u 196, u 197, u 198, u 199, u 200, u 201, u 202, u 203, u 204, u 205, u 206, u 207, u 208, u 209, u 210, u 211, u 212, u 213, u 214, u 215, u 216, u 217, u 218, u 219, u 220, u 221, u 222, u 223, u 224, u 225, u 226, u 227, u 228, u 229, u 230, u 231, u 232, u 233, u 234, u 235, u 236, u 237, u 238, u 239, u 240, u 241, u 242, u 243, u 244, u 245, u 246, u 247, u 248, u 249, u 250, u 251, u 252, u 253, u 254, u 255, u 256, u 257, u 258, u 259, u 260, u 261, u 262], []⟩ ∧ ∀ i, a.tmps.getD i undef = u i :=
  ⟨slots a, by
    have e := tmps_of hs
    rw [lit263] at e
    obtain ⟨t, d⟩ := a
    have hd : d = [] := hd
    have e : t = _ := e
    subst hd
    rw [← e], fun _ => rfl⟩
noncomputable def keepsBody : Code := ((Tryz.f5.body.bind firstLoop).getD .skip)
noncomputable def keepsTail : Code := ((fromRegion 40 keepsBody).map firstOf).getD .skip
noncomputable def keepsBlock : Code := ((fromRegion 40 keepsBody).map restOf).getD .skip
noncomputable def keepsEnd : Code := (fromRegion 47 keepsBody).getD .skip
/-- What every round finds. -/
def KI (wb : World) (L : LL) (P : Pm) (len cap : Nat) (ad : Option Addr) (a : Act) (w : World) : Prop :=
  a.tmps.size = 263 ∧ a.defers = [] ∧ a.tmps.getD 7 undef = .pointer (some ⟨L.q, 0, none⟩) ∧ a.tmps.getD 43 undef = .slice ad len cap ∧ a.tmps.getD 44 undef = .int .i64 (len : Int) ∧
    ∃ (j : Nat) (k : Nr), j ≤ len ∧ a.tmps.getD 45 undef = .int .i64 (j : Int) ∧ Own wb w L P k ∧ Inv P k
def Mk (len : Nat) (a : Act) : Nat := len - (vi (a.tmps.getD 45 undef)).toNat
/-- What may go out while k stands. -/
def Good (k : Nr) (l : List Nt) : Prop := ∀ x ∈ l, (x.k = 3 → x.q = (k.ms.r x.b || k.ms.w x.b)) ∧ (x.k = 9 → x.h = true → 0 < k.d.de → k.ms.w x.b = false)
/-- A round of the loop over what goes out finds. -/
def KJ (wb : World) (L : LL) (P : Pm) (k : Nr) (l : List Nt) (ad4 : Option Addr) (cap4 : Nat) (len j : Nat) (v43 : Value) (a : Act) (w : World) : Prop :=
  a.tmps.size = 263 ∧ a.defers = [] ∧ a.tmps.getD 7 undef = .pointer (some ⟨L.q, 0, none⟩) ∧ a.tmps.getD 43 undef = v43 ∧ a.tmps.getD 44 undef = .int .i64 (len : Int) ∧ a.tmps.getD 45 undef = .int .i64 (j : Int) ∧ Own wb w L P k
theorem keeps_tail (wb W : World) (L : LL) (P : Pm) (k : Nr) (l : List Nt) (ad4 : Option Addr) (cap4 len j cap m0 : Nat) (ad : Option Addr) (K : Act → World → Prop) (Q1 Q0 : Exit → Act → World → Prop) (hO : Own wb W L P k) (hI : Inv P k) (hG : Good k l) (hS : SlN W (.slice ad4 l.length cap4) l) (hl : l.length ≤ 65536) (hlt : j < len) (h300 : len ≤ 300) (hm : len - (j + 1) < m0)
    (hK : ∀ a w, Code.wp Tryz.prog keepsEnd (Exit.then (fun a' w' => KI wb L P len cap ad a' w' ∧ Mk len a' < m0) Q0) a w → K a w) (Kb : Act → World → Prop) (hKb : ∀ a w, Code.wp Tryz.prog keepsBlock (Exit.inBlock 1 (Exit.then K Q1)) a w → Kb a w) (a : Act) (hs : a.tmps.size = 263) (hd : a.defers = []) (h7 : a.tmps.getD 7 undef = .pointer (some ⟨L.q, 0, none⟩)) (h11 : a.tmps.getD 11 undef = .slice ad4 l.length cap4) (h43 : a.tmps.getD 43 undef = .slice ad len cap) (h44 : a.tmps.getD 44 undef = .int .i64 (len : Int)) (h45 : a.tmps.getD 45 undef = .int .i64 (j : Int)) :
    Code.wp Tryz.prog keepsTail (Exit.then Kb (Exit.inBlock 1 (Exit.then K Q1))) a W := by
  obtain ⟨u, rfl, hu⟩ := lit263_of hs hd
  rw [hu] at h7 h11 h43 h44 h45
  rw [h7, h11, h43, h44, h45]
  clear hs hd hu h7 h11 h43 h44 h45
  have HO := Lib.hid hO
  have HI := Lib.hid hI
  have HG := Lib.hid hG
  have HS := Lib.hid hS
  have HK := Lib.hid hK
  have HM := Lib.hid hm
  have HKB := Lib.hid hKb
  clear hKb
  obtain ⟨n, hn⟩ : ∃ n, n = l.length := ⟨_, rfl⟩
  rw [← hn] at hl ⊢
  have HN := Lib.hid hn
  clear hO hI hG hS hK hm hn
  conv => arg 2; whnf
  go_wp2_with fail
  refine HKB.out _ _ ?_
  conv => arg 2; whnf
  go_wp2_with fail
  go_loopw [219] (fun i wr => ∃ t : Nat, t ≤ n ∧ i = .int .i64 (t : Int) ∧ Own wb wr L P k ∧ SlN wr (.slice ad4 l.length cap4) l) (fun i _ => n - (vi i).toNat)
  case atStart => exact ⟨0, Nat.zero_le _, rfl, HO.out, HS.out⟩
  case round =>
    obtain ⟨t, ht, rfl, ho, hs⟩ := hrel
    have HO := Lib.hid ho
    have HS := Lib.hid hs
    clear ho hs
    by_cases htl : t < n
    · obtain ⟨x, hx⟩ : ∃ x, l[t]? = some x := ⟨_, List.getElem?_eq_getElem (by have := HN.out; omega)⟩
      have hg := HG.out x (List.mem_of_getElem? hx)
      obtain ⟨g4, o4, rfl, _, hr⟩ := nsl_at HS.out t x hx
      have HZ : Hid ((wr.alloc (.cells (na zn) 37)).heap[wr.heap.size]? = some (.cells (na zn) 37 (0, 0))) := Lib.hid (heap_alloc_new _ _)
      obtain ⟨W1, hW1⟩ : ∃ z, (wr.alloc (.cells (na zn) 37)).setRow wr.heap.size (na x) = z := ⟨_, rfl⟩
      have hgr : wr.grownBy W1 none := hW1 ▸ tt.grown_setRow (grown_alloc (grown_refl _ _) _) _ (Nat.le_refl _) _
      have hb1 : W1.heap[wr.heap.size]? = some (.cells (na x) 37 (0, 0)) := hW1 ▸ setRow_heap _ _ _ _ _ _ (heap_alloc_new _ _)
      have hrx := tt.range_of hb1
      have c0 := tt.cell_at hrx 0 _ rfl
      have c3 := tt.cell_at hrx 3 _ rfl
      have c6 := tt.cell_at hrx 6 _ rfl
      have c7 := tt.cell_at hrx 7 _ rfl
      rw [zn_na] at HZ hW1
      have O1 := Lib.hid (HO.out.grown hgr)
      have S1 := Lib.hid (HS.out.grown hgr)
      have HMK := Lib.hid (own_marked O1.out x.b)
      have HDL := Lib.hid (own_deal O1.out)
      have HDP := Lib.hid (own_depth O1.out)
      have HW1 := Lib.hid hW1
      clear hgr hb1 hrx hW1 hx
      go_upto_region 43 with (first
        | ((with_reducible refine load_o x 221 g4 (o4 + t * 24) ?_ hr ?_); ((rfl)))
        | ((with_reducible refine tt.store_any x (na zn) 27 222 wr.heap.size ?_ ?_ ?_ ?_ ?_); ((rfl)); ((rfl)); ((exact HZ.out)); ((rfl))))
      rw [HW1.out]
      clear hr HZ
      generalize k.ms.r x.b = r at hg HMK
      generalize k.ms.w x.b = w at hg HMK
      by_cases hk3 : x.k = 3
      · have hq := hg.1 hk3
        rw [hk3] at c0
        rw [hq] at c7
        clear hg hq
        cases r <;> cases w
        all_goals
          go_wp2_with (first
            | (go_at_call 34; ((with_reducible refine HMK.out.mono ?_); rintro e w4 ⟨rfl, rfl⟩)))
          go_roundw
          case rel => exact ⟨t + 1, by omega, by go_num, O1.out, S1.out⟩
          case measure => simp [vi]; omega
      · have e3 : (x.k == 3) = false := by simpa using hk3
        by_cases hk9 : x.k = 9
        · have hh := hg.2 hk9
          rw [hk9] at c0
          clear hg hk3
          cases hxh : x.h
          · rw [hxh] at c6
            clear hh hxh e3
            go_wp2_with (first
              | (go_at_call 34; ((with_reducible refine HMK.out.mono ?_); rintro e w4 ⟨rfl, rfl⟩)))
            go_roundw
            case rel => exact ⟨t + 1, by omega, by go_num, O1.out, S1.out⟩
            case measure => simp [vi]; omega
          · rw [hxh] at c6
            have hh := hh hxh
            clear hxh e3
            cases w
            · clear hh
              go_wp2_with (first
                | (go_at_call 34; ((with_reducible refine HMK.out.mono ?_); rintro e w4 ⟨rfl, rfl⟩)))
              go_roundw
              case rel => exact ⟨t + 1, by omega, by go_num, O1.out, S1.out⟩
              case measure => simp [vi]; omega
            · have hde : decide ((0 : Int) < k.d.de) = false := decide_eq_false (fun h => by cases hh h)
              clear hh
              go_wp2_with (first
                | (go_at_call 34; ((with_reducible refine HMK.out.mono ?_); rintro e w4 ⟨rfl, rfl⟩))
                | (go_at_call 24; ((with_reducible refine HDL.out.mono ?_); rintro e w4 ⟨rfl, rfl⟩))
                | (go_at_call 36; ((with_reducible refine HDP.out.mono ?_); rintro e w4 ⟨rfl, rfl⟩)))
              go_roundw
              case rel => exact ⟨t + 1, by omega, by go_num, O1.out, S1.out⟩
              case measure => simp [vi]; omega
        · have e9 : (x.k == 9) = false := by simpa using hk9
          clear hg hk3 hk9
          go_wp2_with (first
            | (go_at_call 34; ((with_reducible refine HMK.out.mono ?_); rintro e w4 ⟨rfl, rfl⟩)))
          go_roundw
          case rel => exact ⟨t + 1, by omega, by go_num, O1.out, S1.out⟩
          case measure => simp [vi]; omega
    · obtain rfl : t = n := by omega
      go_wp2_with fail
      refine HK.out _ _ ?_
      conv => arg 2; whnf
      go_wp2_with fail
      refine ⟨⟨rfl, rfl, rfl, rfl, rfl, j + 1, k, by omega, by show Value.int .i64 ((j : Int) + 1) = Value.int .i64 ((j + 1 : Nat) : Int); simp, HO.out, HI.out⟩, ?_⟩
      show len - ((j : Int) + 1).toNat < m0
      have := HM.out
      omega
end Go.Proofs.YtinogiidiommkaaGreatDoor.nl
