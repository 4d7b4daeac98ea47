/-
  DERIVED. GIVEN WITH THE SEED: THE CARDS: each row of YtnbcajbpdhnkaaaDoorRows.lean that lists a variable, with what it lists TIED to the program's text (the seventh form; the later family's looks); each row that meets fmt, with fmt's text TOLD by the authors' own Lean function (tested against real Go, not proved from fmt's source: count such statements apart). THE CARD IS WHAT COUNTS. Prove the row's statement (the work); the ties are given (YtnbcajbpdhnkaaaDoorTie.lean); close each card by the builder's one call (the guide's Derived/Test/ToyasCard.lean, 'card_holds'). Laid BY PROGRAM, IN A SANDBOX (cutbox-door.mjs). By AI agents, Wed Nov 11 2026. No macro, syntax, notation, axiom, sorry.
-/
import Derived.Test.YtnbcajbpdhnkaaaDoorRows
import GoSem.ClaimSeven
namespace Go.Proofs.YtnbcajbpdhnkaaaDoor
namespace Rows

/-- THE TIED CARD OF 'tannoylaw03.StreamBlocks'. -/
def streamBlocksCard : Claim7 := { stood := { row := streamBlocksRow, standIns := [], harness := (true, "186dd87844eeb318749f3e72b8babefeb0d906e22278ed8070f227b14c9dece9"), looks := false }, kinds := [], alts := [], laidByText := true, laidKinds := [.data], laidTests := true, laidLooks := .later }
def StreamBlocksCardSaid : Prop := Claim7.holds Tryd.pinned (.plain (OpenSpec.ofChange streamBlocksSpec)) streamBlocksCard

/-- THE TIED CARD OF 'tannoylaw03.StreamApplies'. -/
def streamAppliesCard : Claim7 := { stood := { row := streamAppliesRow, standIns := [], harness := (true, "186dd87844eeb318749f3e72b8babefeb0d906e22278ed8070f227b14c9dece9"), looks := false }, kinds := [], alts := [], laidByText := true, laidKinds := [.data], laidTests := true, laidLooks := .later }
def StreamAppliesCardSaid : Prop := Claim7.holds Tryd.pinned (.plain (OpenSpec.ofChange streamAppliesSpec)) streamAppliesCard

/-- THE TIED CARD OF 'tannoylaw03.StreamUndoes'. -/
def streamUndoesCard : Claim7 := { stood := { row := streamUndoesRow, standIns := [], harness := (true, "186dd87844eeb318749f3e72b8babefeb0d906e22278ed8070f227b14c9dece9"), looks := false }, kinds := [], alts := [], laidByText := true, laidKinds := [.data], laidTests := true, laidLooks := .later }
def StreamUndoesCardSaid : Prop := Claim7.holds Tryd.pinned (.plain (OpenSpec.ofChange streamUndoesSpec)) streamUndoesCard

/-- THE TIED CARD OF 'tannoylaw03.StreamCuts'. -/
def streamCutsCard : Claim7 := { stood := { row := streamCutsRow, standIns := [], harness := (true, "186dd87844eeb318749f3e72b8babefeb0d906e22278ed8070f227b14c9dece9"), looks := false }, kinds := [], alts := [], laidByText := true, laidKinds := [.data], laidTests := true, laidLooks := .later }
def StreamCutsCardSaid : Prop := Claim7.holds Tryd.pinned (.plain (OpenSpec.ofChange streamCutsSpec)) streamCutsCard

/-- THE TIED CARD OF 'tannoylaw03.StreamKnown'. -/
def streamKnownCard : Claim7 := { stood := { row := streamKnownRow, standIns := [], harness := (true, "186dd87844eeb318749f3e72b8babefeb0d906e22278ed8070f227b14c9dece9"), looks := false }, kinds := [], alts := [], laidByText := true, laidKinds := [.data], laidTests := true, laidLooks := .later }
def StreamKnownCardSaid : Prop := Claim7.holds Tryd.pinned (.plain (OpenSpec.ofChange streamKnownSpec)) streamKnownCard

/-- THE SECOND FORM's CARD OF 'tannoylaw03.StreamBlocks'. -/
def streamBlocksUptoCard : Claim7 := { stood := { row := streamBlocksUptoRow, standIns := [], harness := (true, "186dd87844eeb318749f3e72b8babefeb0d906e22278ed8070f227b14c9dece9"), looks := false }, kinds := [], alts := [], laidByText := true, laidKinds := [.data], laidTests := true, laidLooks := .later }
def StreamBlocksUptoCardSaid : Prop := Claim7.holds Tryd.pinned (.plain (OpenSpec.upto streamBlocksSpec)) streamBlocksUptoCard

/-- THE SECOND FORM's CARD OF 'tannoylaw03.StreamApplies'. -/
def streamAppliesUptoCard : Claim7 := { stood := { row := streamAppliesUptoRow, standIns := [], harness := (true, "186dd87844eeb318749f3e72b8babefeb0d906e22278ed8070f227b14c9dece9"), looks := false }, kinds := [], alts := [], laidByText := true, laidKinds := [.data], laidTests := true, laidLooks := .later }
def StreamAppliesUptoCardSaid : Prop := Claim7.holds Tryd.pinned (.plain (OpenSpec.upto streamAppliesSpec)) streamAppliesUptoCard

/-- THE SECOND FORM's CARD OF 'tannoylaw03.StreamUndoes'. -/
def streamUndoesUptoCard : Claim7 := { stood := { row := streamUndoesUptoRow, standIns := [], harness := (true, "186dd87844eeb318749f3e72b8babefeb0d906e22278ed8070f227b14c9dece9"), looks := false }, kinds := [], alts := [], laidByText := true, laidKinds := [.data], laidTests := true, laidLooks := .later }
def StreamUndoesUptoCardSaid : Prop := Claim7.holds Tryd.pinned (.plain (OpenSpec.upto streamUndoesSpec)) streamUndoesUptoCard

/-- THE SECOND FORM's CARD OF 'tannoylaw03.StreamCuts'. -/
def streamCutsUptoCard : Claim7 := { stood := { row := streamCutsUptoRow, standIns := [], harness := (true, "186dd87844eeb318749f3e72b8babefeb0d906e22278ed8070f227b14c9dece9"), looks := false }, kinds := [], alts := [], laidByText := true, laidKinds := [.data], laidTests := true, laidLooks := .later }
def StreamCutsUptoCardSaid : Prop := Claim7.holds Tryd.pinned (.plain (OpenSpec.upto streamCutsSpec)) streamCutsUptoCard

/-- THE SECOND FORM's CARD OF 'tannoylaw03.StreamKnown'. -/
def streamKnownUptoCard : Claim7 := { stood := { row := streamKnownUptoRow, standIns := [], harness := (true, "186dd87844eeb318749f3e72b8babefeb0d906e22278ed8070f227b14c9dece9"), looks := false }, kinds := [], alts := [], laidByText := true, laidKinds := [.data], laidTests := true, laidLooks := .later }
def StreamKnownUptoCardSaid : Prop := Claim7.holds Tryd.pinned (.plain (OpenSpec.upto streamKnownSpec)) streamKnownUptoCard
end Rows
end Go.Proofs.YtnbcajbpdhnkaaaDoor
