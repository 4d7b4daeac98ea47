/-
  DERIVED. GIVEN WITH THE SEED: THE CARDS: each row of YtfdeegafdaobdaaDoorRows.lean that lists a variable, with what it lists TIED to the program's text (the seventh form; the later family's looks); each row that meets fmt, with fmt's text TOLD by the authors' own Lean function (tested against real Go, not proved from fmt's source: count such statements apart). THE CARD IS WHAT COUNTS. Prove the row's statement (the work); the ties are given (YtfdeegafdaobdaaDoorTie.lean); close each card by the builder's one call (the guide's Derived/Test/ToyasCard.lean, 'card_holds'). Laid BY PROGRAM, IN A SANDBOX (cutbox-door.mjs). By AI agents, Wed Nov 11 2026. No macro, syntax, notation, axiom, sorry.
-/
import Derived.Test.YtfdeegafdaobdaaDoorRows
import GoSem.ClaimSeven
namespace Go.Proofs.YtfdeegafdaobdaaDoor
namespace Rows

/-- THE TIED CARD OF 'tannoylaw02.DigestSums'. -/
def digestSumsCard : Claim7 := { stood := { row := digestSumsRow, standIns := [], harness := (true, "5bf90d489b37e08e4e9e2df3bd1a788da17a6bcd221ee20108ca7725e62e2f60"), looks := false }, kinds := [], alts := [], laidByText := true, laidKinds := [.data], laidTests := true, laidLooks := .later }
def DigestSumsCardSaid : Prop := Claim7.holds Tryd.pinned (.plain (OpenSpec.ofChange digestSumsSpec)) digestSumsCard

/-- THE TIED CARD OF 'tannoylaw02.DigestPieces'. -/
def digestPiecesCard : Claim7 := { stood := { row := digestPiecesRow, standIns := [], harness := (true, "5bf90d489b37e08e4e9e2df3bd1a788da17a6bcd221ee20108ca7725e62e2f60"), looks := false }, kinds := [], alts := [], laidByText := true, laidKinds := [.data], laidTests := true, laidLooks := .later }
def DigestPiecesCardSaid : Prop := Claim7.holds Tryd.pinned (.plain (OpenSpec.ofChange digestPiecesSpec)) digestPiecesCard

/-- THE TIED CARD OF 'tannoylaw02.DigestDerives'. -/
def digestDerivesCard : Claim7 := { stood := { row := digestDerivesRow, standIns := [], harness := (true, "5bf90d489b37e08e4e9e2df3bd1a788da17a6bcd221ee20108ca7725e62e2f60"), looks := false }, kinds := [], alts := [], laidByText := true, laidKinds := [.data], laidTests := true, laidLooks := .later }
def DigestDerivesCardSaid : Prop := Claim7.holds Tryd.pinned (.plain (OpenSpec.ofChange digestDerivesSpec)) digestDerivesCard

/-- THE TIED CARD OF 'tannoylaw02.DigestCuts'. -/
def digestCutsCard : Claim7 := { stood := { row := digestCutsRow, standIns := [], harness := (true, "5bf90d489b37e08e4e9e2df3bd1a788da17a6bcd221ee20108ca7725e62e2f60"), looks := false }, kinds := [], alts := [], laidByText := true, laidKinds := [.data], laidTests := true, laidLooks := .later }
def DigestCutsCardSaid : Prop := Claim7.holds Tryd.pinned (.plain (OpenSpec.ofChange digestCutsSpec)) digestCutsCard

/-- THE TIED CARD OF 'tannoylaw02.DigestKeys'. -/
def digestKeysCard : Claim7 := { stood := { row := digestKeysRow, standIns := [], harness := (true, "5bf90d489b37e08e4e9e2df3bd1a788da17a6bcd221ee20108ca7725e62e2f60"), looks := false }, kinds := [], alts := [], laidByText := true, laidKinds := [.data], laidTests := true, laidLooks := .later }
def DigestKeysCardSaid : Prop := Claim7.holds Tryd.pinned (.plain (OpenSpec.ofChange digestKeysSpec)) digestKeysCard

/-- THE TIED CARD OF 'tannoylaw02.DigestPrefix'. -/
def digestPrefixCard : Claim7 := { stood := { row := digestPrefixRow, standIns := [], harness := (true, "5bf90d489b37e08e4e9e2df3bd1a788da17a6bcd221ee20108ca7725e62e2f60"), looks := false }, kinds := [], alts := [], laidByText := true, laidKinds := [.data], laidTests := true, laidLooks := .later }
def DigestPrefixCardSaid : Prop := Claim7.holds Tryd.pinned (.plain (OpenSpec.ofChange digestPrefixSpec)) digestPrefixCard

/-- THE TIED CARD OF 'tannoylaw02.DigestKnown'. -/
def digestKnownCard : Claim7 := { stood := { row := digestKnownRow, standIns := [], harness := (true, "5bf90d489b37e08e4e9e2df3bd1a788da17a6bcd221ee20108ca7725e62e2f60"), looks := false }, kinds := [], alts := [], laidByText := true, laidKinds := [.data], laidTests := true, laidLooks := .later }
def DigestKnownCardSaid : Prop := Claim7.holds Tryd.pinned (.plain (OpenSpec.ofChange digestKnownSpec)) digestKnownCard

/-- THE SECOND FORM's CARD OF 'tannoylaw02.DigestSums'. -/
def digestSumsUptoCard : Claim7 := { stood := { row := digestSumsUptoRow, standIns := [], harness := (true, "5bf90d489b37e08e4e9e2df3bd1a788da17a6bcd221ee20108ca7725e62e2f60"), looks := false }, kinds := [], alts := [], laidByText := true, laidKinds := [.data], laidTests := true, laidLooks := .later }
def DigestSumsUptoCardSaid : Prop := Claim7.holds Tryd.pinned (.plain (OpenSpec.upto digestSumsSpec)) digestSumsUptoCard

/-- THE SECOND FORM's CARD OF 'tannoylaw02.DigestPieces'. -/
def digestPiecesUptoCard : Claim7 := { stood := { row := digestPiecesUptoRow, standIns := [], harness := (true, "5bf90d489b37e08e4e9e2df3bd1a788da17a6bcd221ee20108ca7725e62e2f60"), looks := false }, kinds := [], alts := [], laidByText := true, laidKinds := [.data], laidTests := true, laidLooks := .later }
def DigestPiecesUptoCardSaid : Prop := Claim7.holds Tryd.pinned (.plain (OpenSpec.upto digestPiecesSpec)) digestPiecesUptoCard

/-- THE SECOND FORM's CARD OF 'tannoylaw02.DigestDerives'. -/
def digestDerivesUptoCard : Claim7 := { stood := { row := digestDerivesUptoRow, standIns := [], harness := (true, "5bf90d489b37e08e4e9e2df3bd1a788da17a6bcd221ee20108ca7725e62e2f60"), looks := false }, kinds := [], alts := [], laidByText := true, laidKinds := [.data], laidTests := true, laidLooks := .later }
def DigestDerivesUptoCardSaid : Prop := Claim7.holds Tryd.pinned (.plain (OpenSpec.upto digestDerivesSpec)) digestDerivesUptoCard

/-- THE SECOND FORM's CARD OF 'tannoylaw02.DigestCuts'. -/
def digestCutsUptoCard : Claim7 := { stood := { row := digestCutsUptoRow, standIns := [], harness := (true, "5bf90d489b37e08e4e9e2df3bd1a788da17a6bcd221ee20108ca7725e62e2f60"), looks := false }, kinds := [], alts := [], laidByText := true, laidKinds := [.data], laidTests := true, laidLooks := .later }
def DigestCutsUptoCardSaid : Prop := Claim7.holds Tryd.pinned (.plain (OpenSpec.upto digestCutsSpec)) digestCutsUptoCard

/-- THE SECOND FORM's CARD OF 'tannoylaw02.DigestKeys'. -/
def digestKeysUptoCard : Claim7 := { stood := { row := digestKeysUptoRow, standIns := [], harness := (true, "5bf90d489b37e08e4e9e2df3bd1a788da17a6bcd221ee20108ca7725e62e2f60"), looks := false }, kinds := [], alts := [], laidByText := true, laidKinds := [.data], laidTests := true, laidLooks := .later }
def DigestKeysUptoCardSaid : Prop := Claim7.holds Tryd.pinned (.plain (OpenSpec.upto digestKeysSpec)) digestKeysUptoCard

/-- THE SECOND FORM's CARD OF 'tannoylaw02.DigestPrefix'. -/
def digestPrefixUptoCard : Claim7 := { stood := { row := digestPrefixUptoRow, standIns := [], harness := (true, "5bf90d489b37e08e4e9e2df3bd1a788da17a6bcd221ee20108ca7725e62e2f60"), looks := false }, kinds := [], alts := [], laidByText := true, laidKinds := [.data], laidTests := true, laidLooks := .later }
def DigestPrefixUptoCardSaid : Prop := Claim7.holds Tryd.pinned (.plain (OpenSpec.upto digestPrefixSpec)) digestPrefixUptoCard

/-- THE SECOND FORM's CARD OF 'tannoylaw02.DigestKnown'. -/
def digestKnownUptoCard : Claim7 := { stood := { row := digestKnownUptoRow, standIns := [], harness := (true, "5bf90d489b37e08e4e9e2df3bd1a788da17a6bcd221ee20108ca7725e62e2f60"), looks := false }, kinds := [], alts := [], laidByText := true, laidKinds := [.data], laidTests := true, laidLooks := .later }
def DigestKnownUptoCardSaid : Prop := Claim7.holds Tryd.pinned (.plain (OpenSpec.upto digestKnownSpec)) digestKnownUptoCard
end Rows
end Go.Proofs.YtfdeegafdaobdaaDoor
