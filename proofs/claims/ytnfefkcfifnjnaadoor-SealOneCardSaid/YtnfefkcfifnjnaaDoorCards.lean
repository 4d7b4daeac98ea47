/-
  DERIVED. GIVEN WITH THE SEED: THE CARDS: each row of YtnfefkcfifnjnaaDoorRows.lean that lists a variable, with what it lists TIED to the program's text (the seventh form; the later family's looks); each row that meets fmt, with fmt's text TOLD by the authors' own Lean function (tested against real Go, not proved from fmt's source: count such statements apart). THE CARD IS WHAT COUNTS. Prove the row's statement (the work); the ties are given (YtnfefkcfifnjnaaDoorTie.lean); close each card by the builder's one call (the guide's Derived/Test/ToyasCard.lean, 'card_holds'). Laid BY PROGRAM, IN A SANDBOX (cutbox-door.mjs). By AI agents, Wed Nov 11 2026. No macro, syntax, notation, axiom, sorry.
-/
import Derived.Test.YtnfefkcfifnjnaaDoorRows
import GoSem.ClaimSeven
namespace Go.Proofs.YtnfefkcfifnjnaaDoor
namespace Rows

/-- THE TIED CARD OF 'tannoylaw04.SealTags'. -/
def sealTagsCard : Claim7 := { stood := { row := sealTagsRow, standIns := [], harness := (true, "5d10860841a92d8ecd92ca1bf773e86464ed2b198272c5be34d3ba869c83e8b7"), looks := false }, kinds := [], alts := [], laidByText := true, laidKinds := [.data], laidTests := true, laidLooks := .later }
def SealTagsCardSaid : Prop := Claim7.holds Tryd.pinned (.plain (OpenSpec.ofChange sealTagsSpec)) sealTagsCard

/-- THE TIED CARD OF 'tannoylaw04.SealBoxes'. -/
def sealBoxesCard : Claim7 := { stood := { row := sealBoxesRow, standIns := [], harness := (true, "5d10860841a92d8ecd92ca1bf773e86464ed2b198272c5be34d3ba869c83e8b7"), looks := false }, kinds := [], alts := [], laidByText := true, laidKinds := [.data], laidTests := true, laidLooks := .later }
def SealBoxesCardSaid : Prop := Claim7.holds Tryd.pinned (.plain (OpenSpec.ofChange sealBoxesSpec)) sealBoxesCard

/-- THE TIED CARD OF 'tannoylaw04.SealOpens'. -/
def sealOpensCard : Claim7 := { stood := { row := sealOpensRow, standIns := [], harness := (true, "5d10860841a92d8ecd92ca1bf773e86464ed2b198272c5be34d3ba869c83e8b7"), looks := false }, kinds := [], alts := [], laidByText := true, laidKinds := [.data], laidTests := true, laidLooks := .later }
def SealOpensCardSaid : Prop := Claim7.holds Tryd.pinned (.plain (OpenSpec.ofChange sealOpensSpec)) sealOpensCard

/-- THE TIED CARD OF 'tannoylaw04.SealMeans'. -/
def sealMeansCard : Claim7 := { stood := { row := sealMeansRow, standIns := [], harness := (true, "5d10860841a92d8ecd92ca1bf773e86464ed2b198272c5be34d3ba869c83e8b7"), looks := false }, kinds := [], alts := [], laidByText := true, laidKinds := [.data], laidTests := true, laidLooks := .later }
def SealMeansCardSaid : Prop := Claim7.holds Tryd.pinned (.plain (OpenSpec.ofChange sealMeansSpec)) sealMeansCard

/-- THE TIED CARD OF 'tannoylaw04.SealSums'. -/
def sealSumsCard : Claim7 := { stood := { row := sealSumsRow, standIns := [], harness := (true, "5d10860841a92d8ecd92ca1bf773e86464ed2b198272c5be34d3ba869c83e8b7"), looks := false }, kinds := [], alts := [], laidByText := true, laidKinds := [.data], laidTests := true, laidLooks := .later }
def SealSumsCardSaid : Prop := Claim7.holds Tryd.pinned (.plain (OpenSpec.ofChange sealSumsSpec)) sealSumsCard

/-- THE TIED CARD OF 'tannoylaw04.SealOne'. -/
def sealOneCard : Claim7 := { stood := { row := sealOneRow, standIns := [], harness := (true, "5d10860841a92d8ecd92ca1bf773e86464ed2b198272c5be34d3ba869c83e8b7"), looks := false }, kinds := [], alts := [], laidByText := true, laidKinds := [.data], laidTests := true, laidLooks := .later }
def SealOneCardSaid : Prop := Claim7.holds Tryd.pinned (.plain (OpenSpec.ofChange sealOneSpec)) sealOneCard

/-- THE TIED CARD OF 'tannoylaw04.SealKnown'. -/
def sealKnownCard : Claim7 := { stood := { row := sealKnownRow, standIns := [], harness := (true, "5d10860841a92d8ecd92ca1bf773e86464ed2b198272c5be34d3ba869c83e8b7"), looks := false }, kinds := [], alts := [], laidByText := true, laidKinds := [.data], laidTests := true, laidLooks := .later }
def SealKnownCardSaid : Prop := Claim7.holds Tryd.pinned (.plain (OpenSpec.ofChange sealKnownSpec)) sealKnownCard

/-- THE TIED CARD OF 'tannoylaw03.StreamBlocks'. -/
def streamBlocksCard : Claim7 := { stood := { row := streamBlocksRow, standIns := [], harness := (true, "5d10860841a92d8ecd92ca1bf773e86464ed2b198272c5be34d3ba869c83e8b7"), looks := false }, kinds := [], alts := [], laidByText := true, laidKinds := [.data], laidTests := true, laidLooks := .later }
def StreamBlocksCardSaid : Prop := Claim7.holds Tryd.pinned (.plain (OpenSpec.ofChange streamBlocksSpec)) streamBlocksCard

/-- THE TIED CARD OF 'tannoylaw03.StreamApplies'. -/
def streamAppliesCard : Claim7 := { stood := { row := streamAppliesRow, standIns := [], harness := (true, "5d10860841a92d8ecd92ca1bf773e86464ed2b198272c5be34d3ba869c83e8b7"), looks := false }, kinds := [], alts := [], laidByText := true, laidKinds := [.data], laidTests := true, laidLooks := .later }
def StreamAppliesCardSaid : Prop := Claim7.holds Tryd.pinned (.plain (OpenSpec.ofChange streamAppliesSpec)) streamAppliesCard

/-- THE SECOND FORM's CARD OF 'tannoylaw04.SealTags'. -/
def sealTagsUptoCard : Claim7 := { stood := { row := sealTagsUptoRow, standIns := [], harness := (true, "5d10860841a92d8ecd92ca1bf773e86464ed2b198272c5be34d3ba869c83e8b7"), looks := false }, kinds := [], alts := [], laidByText := true, laidKinds := [.data], laidTests := true, laidLooks := .later }
def SealTagsUptoCardSaid : Prop := Claim7.holds Tryd.pinned (.plain (OpenSpec.upto sealTagsSpec)) sealTagsUptoCard

/-- THE SECOND FORM's CARD OF 'tannoylaw04.SealBoxes'. -/
def sealBoxesUptoCard : Claim7 := { stood := { row := sealBoxesUptoRow, standIns := [], harness := (true, "5d10860841a92d8ecd92ca1bf773e86464ed2b198272c5be34d3ba869c83e8b7"), looks := false }, kinds := [], alts := [], laidByText := true, laidKinds := [.data], laidTests := true, laidLooks := .later }
def SealBoxesUptoCardSaid : Prop := Claim7.holds Tryd.pinned (.plain (OpenSpec.upto sealBoxesSpec)) sealBoxesUptoCard

/-- THE SECOND FORM's CARD OF 'tannoylaw04.SealOpens'. -/
def sealOpensUptoCard : Claim7 := { stood := { row := sealOpensUptoRow, standIns := [], harness := (true, "5d10860841a92d8ecd92ca1bf773e86464ed2b198272c5be34d3ba869c83e8b7"), looks := false }, kinds := [], alts := [], laidByText := true, laidKinds := [.data], laidTests := true, laidLooks := .later }
def SealOpensUptoCardSaid : Prop := Claim7.holds Tryd.pinned (.plain (OpenSpec.upto sealOpensSpec)) sealOpensUptoCard

/-- THE SECOND FORM's CARD OF 'tannoylaw04.SealMeans'. -/
def sealMeansUptoCard : Claim7 := { stood := { row := sealMeansUptoRow, standIns := [], harness := (true, "5d10860841a92d8ecd92ca1bf773e86464ed2b198272c5be34d3ba869c83e8b7"), looks := false }, kinds := [], alts := [], laidByText := true, laidKinds := [.data], laidTests := true, laidLooks := .later }
def SealMeansUptoCardSaid : Prop := Claim7.holds Tryd.pinned (.plain (OpenSpec.upto sealMeansSpec)) sealMeansUptoCard

/-- THE SECOND FORM's CARD OF 'tannoylaw04.SealSums'. -/
def sealSumsUptoCard : Claim7 := { stood := { row := sealSumsUptoRow, standIns := [], harness := (true, "5d10860841a92d8ecd92ca1bf773e86464ed2b198272c5be34d3ba869c83e8b7"), looks := false }, kinds := [], alts := [], laidByText := true, laidKinds := [.data], laidTests := true, laidLooks := .later }
def SealSumsUptoCardSaid : Prop := Claim7.holds Tryd.pinned (.plain (OpenSpec.upto sealSumsSpec)) sealSumsUptoCard

/-- THE SECOND FORM's CARD OF 'tannoylaw04.SealOne'. -/
def sealOneUptoCard : Claim7 := { stood := { row := sealOneUptoRow, standIns := [], harness := (true, "5d10860841a92d8ecd92ca1bf773e86464ed2b198272c5be34d3ba869c83e8b7"), looks := false }, kinds := [], alts := [], laidByText := true, laidKinds := [.data], laidTests := true, laidLooks := .later }
def SealOneUptoCardSaid : Prop := Claim7.holds Tryd.pinned (.plain (OpenSpec.upto sealOneSpec)) sealOneUptoCard

/-- THE SECOND FORM's CARD OF 'tannoylaw04.SealKnown'. -/
def sealKnownUptoCard : Claim7 := { stood := { row := sealKnownUptoRow, standIns := [], harness := (true, "5d10860841a92d8ecd92ca1bf773e86464ed2b198272c5be34d3ba869c83e8b7"), looks := false }, kinds := [], alts := [], laidByText := true, laidKinds := [.data], laidTests := true, laidLooks := .later }
def SealKnownUptoCardSaid : Prop := Claim7.holds Tryd.pinned (.plain (OpenSpec.upto sealKnownSpec)) sealKnownUptoCard

/-- THE SECOND FORM's CARD OF 'tannoylaw03.StreamBlocks'. -/
def streamBlocksUptoCard : Claim7 := { stood := { row := streamBlocksUptoRow, standIns := [], harness := (true, "5d10860841a92d8ecd92ca1bf773e86464ed2b198272c5be34d3ba869c83e8b7"), looks := false }, kinds := [], alts := [], laidByText := true, laidKinds := [.data], laidTests := true, laidLooks := .later }
def StreamBlocksUptoCardSaid : Prop := Claim7.holds Tryd.pinned (.plain (OpenSpec.upto streamBlocksSpec)) streamBlocksUptoCard

/-- THE SECOND FORM's CARD OF 'tannoylaw03.StreamApplies'. -/
def streamAppliesUptoCard : Claim7 := { stood := { row := streamAppliesUptoRow, standIns := [], harness := (true, "5d10860841a92d8ecd92ca1bf773e86464ed2b198272c5be34d3ba869c83e8b7"), looks := false }, kinds := [], alts := [], laidByText := true, laidKinds := [.data], laidTests := true, laidLooks := .later }
def StreamAppliesUptoCardSaid : Prop := Claim7.holds Tryd.pinned (.plain (OpenSpec.upto streamAppliesSpec)) streamAppliesUptoCard
end Rows
end Go.Proofs.YtnfefkcfifnjnaaDoor
