/- What the rows' lifts share: the listed table as a fact on cells; the post of a law that leaves old memory alone. -/
import Derived.Test.YtebaagmbnbbflaaDoorQ
import Derived.Test.YtebaagmbnbbflaaDoorTie
import Derived.ProofKit
import Derived.LaidMore
import Derived.OpenShut
import Derived.Stop.Joined
import Derived.Lib.LaidTab
namespace Go.Proofs.YtebaagmbnbbflaaDoor
open Go.ChangeShapes Go.WideShapes Go.ChangeAt Go.RowKit

theorem own : ownKnob Tryd.prog.godebug = none := by kernel_rfl
theorem gDigits : Tryd.prog.globalNamed "tannoy/octets.digits" = some 0 := by kernel_rfl
theorem tDigits : (Tryd.prog.globals[0]?).map (·.type) = some 87 := by kernel_rfl
theorem digitsTab {H : Type} : (Rows.laid_tannoy_octets_digits : DataW H) = Lib.tabData .u8 [48, 49, 50, 51, 52, 53, 54, 55, 56, 57, 97, 98, 99, 100, 101, 102] := rfl

theorem digits_of_cells {W : World} (hc : ∀ i : Nat, W.cell? ⟨0, i, none⟩ = (([48, 49, 50, 51, 52, 53, 54, 55, 56, 57, 97, 98, 99, 100, 101, 102] : List Int).map fun z => Value.int .u8 z)[i]?) : Digits W := by
  have h0 := hc 0
  refine ⟨World.block_lt_of_cell? W _ h0, fun i hi => ?_⟩
  rw [hc i]
  have : ∀ i, i < 16 → (([48, 49, 50, 51, 52, 53, 54, 55, 56, 57, 97, 98, 99, 100, 101, 102] : List Int).map fun z => Value.int .u8 z)[i]? = some (.int .u8 (dg i)) := by
    intro i hi
    match i, hi with
    | 0, _ | 1, _ | 2, _ | 3, _ | 4, _ | 5, _ | 6, _ | 7, _ | 8, _ | 9, _ | 10, _ | 11, _ | 12, _ | 13, _ | 14, _ | 15, _ => rfl
    | n + 16, h => exact absurd h (by omega)
  exact this i hi

/-- The laws' listed condition gives the table of digits. -/
theorem of_laid {W : World} (h : laidMetH Tryd.prog [("tannoy/octets.digits", Rows.laid_tannoy_octets_digits)] W) : Digits W := by
  rw [MakeChecks.laidMetH_plain _ _ _ (by kernel_rfl)] at h
  obtain ⟨ps, ⟨g0, t0, cs0, f0, p0, q0, hg0, ht0, hv0, hd0, _⟩, _, _⟩ := h
  obtain rfl := Option.some.inj (gDigits.symm.trans hg0)
  obtain rfl := Option.some.inj (tDigits.symm.trans ht0)
  rw [digitsTab] at hd0
  have hcs := Lib.cells_of_tab Tryd.underlying87 Tryd.underlying5 (by kernel_rfl) (by kernel_rfl) hd0
  refine digits_of_cells fun i => ?_
  have := World.var?_cell hg0 hv0 i
  rw [this, ← hcs]
  simp

/-- The door's own heap meets the condition. -/
theorem door_met (os : Os) (args : Array Value) : laidMetH Tryd.prog [("tannoy/octets.digits", Rows.laid_tannoy_octets_digits)] ((World.doorLaid Tryd.prog 400 os).forCall (fun _ _ => 0) ⟨#[], args, []⟩).memory :=
  laidMetH_of_parts3 (fuel := 8) (laidMet_of_run' 8 (by kernel_rfl) (by kernel_rfl)) (by kernel_rfl) (by kernel_rfl)
end Go.Proofs.YtebaagmbnbbflaaDoor
