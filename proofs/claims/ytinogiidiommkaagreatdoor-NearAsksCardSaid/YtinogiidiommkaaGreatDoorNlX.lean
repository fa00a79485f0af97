/-
  The law NearAsks returns true. Conditions: the tables of bounds and of kinds lie in their variables as the program's text has them; that the script lies where the argument says.
-/
import Derived.Test.YtinogiidiommkaaGreatDoorNmF
import Derived.Test.YtinogiidiommkaaGreatDoorMkD
namespace Go.Proofs.YtinogiidiommkaaGreatDoor.nl
open Go Go.ChangeShapes Go.WideShapes Go.ChangeAt Go.RowKit Go.Shelf
open Go.Proofs.YtinogiidiommkaaGreatDoor.nr
open Go.Proofs.YtinogiidiommkaaGreatDoor.tt (OpX opc OpsAt Cfg Nt na nt zn bare zd fits row tyne lt_of U Tab TabK grown_refl grown_trans grown_alloc grown_setCells grown_drew grown_drewN yes Sl Next flat)
open Go.Proofs.YtinogiidiommkaaGreatDoor.kk (Ln St zl la ln cfind cdrop cuse cgoes cwrite cturn cput setAt setOf live fF Shp Cac Kept)
open Go.Proofs.YtinogiidiommkaaGreatDoor.bk (Bk rem kills puts putE fd fl Nd Rg dead fresh BkAt)
open Go.Proofs.YtinogiidiommkaaGreatDoor.mrk (Ms rdS wrS meets addE Dom MkAt)
open Go.Proofs.YtinogiidiommkaaGreatDoor.de (Dl sT gE rF aD LAt)
open Go.Proofs.YtinogiidiommkaaGreatDoor.oo (ref)
set_option linter.unusedVariables false
set_option maxRecDepth 1000000
set_option maxHeartbeats 4000000

theorem mk_pok {c : Cfg} {core : Int} (hm : c.may) (h0 : 0 ≤ core) (h1 : core < c.co) : ∃ P : Pm, Pok P ∧ P.c = c ∧ P.core = core := by
  obtain ⟨N, hN, _⟩ := mrk.cfg_nat hm
  have hba := tt.hb_bounds (hm.1 5 (by omega))
  have hb1 : 1 ≤ c.ba := hba.1
  exact ⟨⟨c, core, N, c.ba.toNat⟩, ⟨hm, hN, by show c.ba = ((c.ba.toNat : Nat) : Int); omega, h0, h1⟩, rfl, rfl⟩
theorem tabs_of_laid {W : World} (h : laidMetH Tryz.prog tt.laid1 W) : Tb W := ⟨tt.tab_of_laid h, tt.kinds_of_laid h⟩
theorem asks_true (c : Cfg) (core : Int) (ad : Option Addr) (len cap : Nat) (w : World) (hT : Tb w) (os : List OpX) (hlen : len = os.length) (hat : OpsAt w ad os) : Calls Tryz.prog 7 #[.agg c.cells, .int .i64 core, .slice ad len cap] w fun e w' => e = .returned (.bool true) ∧ w.grownBy w' none := by
  by_cases h : 300 < len
  · exact asks_long c core ad len cap w hT h
  · by_cases hm : c.may ∧ 0 ≤ core ∧ core < c.co
    · obtain ⟨P, hP, rfl, rfl⟩ := mk_pok hm.1 hm.2.1 hm.2.2
      exact asks_some P hP os ad len cap w hT hlen hat (by omega)
    · exact asks_no c core ad len cap w hT (by omega) hm
end Go.Proofs.YtinogiidiommkaaGreatDoor.nl
