/-
  DERIVED. GIVEN WITH THE SEED: THE CARDS: each row of YtebaagmbnbbflaaDoorRows.lean that lists a variable, with what it lists TIED to the program's text (the seventh form; the later family's looks); each row that meets fmt, with fmt's text TOLD by the authors' own Lean function (tested against real Go, not proved from fmt's source: count such statements apart). THE CARD IS WHAT COUNTS. Prove the row's statement (the work); the ties are given (YtebaagmbnbbflaaDoorTie.lean); close each card by the builder's one call (the guide's Derived/Test/ToyasCard.lean, 'card_holds'). Laid BY PROGRAM, IN A SANDBOX (cutbox-door.mjs). By AI agents, Wed Nov 11 2026. No macro, syntax, notation, axiom, sorry.
-/
import Derived.Test.YtebaagmbnbbflaaDoorRows
import GoSem.ClaimSeven
namespace Go.Proofs.YtebaagmbnbbflaaDoor
namespace Rows

/-- THE TIED CARD OF 'tannoylaw01.OctetsReads'. -/
def octetsReadsCard : Claim7 := { stood := { row := octetsReadsRow, standIns := [], harness := (true, "5a8f20ae7c6d05d897f4eb224be1d20e30613f7a981ad9b507bb644ff5708c62"), looks := false }, kinds := [], alts := [], laidByText := true, laidKinds := [.data], laidTests := true, laidLooks := .later }
def OctetsReadsCardSaid : Prop := Claim7.holds Tryd.pinned (.plain (OpenSpec.ofChange octetsReadsSpec)) octetsReadsCard

/-- THE TIED CARD OF 'tannoylaw01.OctetsWrites'. -/
def octetsWritesCard : Claim7 := { stood := { row := octetsWritesRow, standIns := [], harness := (true, "5a8f20ae7c6d05d897f4eb224be1d20e30613f7a981ad9b507bb644ff5708c62"), looks := false }, kinds := [], alts := [], laidByText := true, laidKinds := [.data], laidTests := true, laidLooks := .later }
def OctetsWritesCardSaid : Prop := Claim7.holds Tryd.pinned (.plain (OpenSpec.ofChange octetsWritesSpec)) octetsWritesCard

/-- THE TIED CARD OF 'tannoylaw01.OctetsTexts'. -/
def octetsTextsCard : Claim7 := { stood := { row := octetsTextsRow, standIns := [], harness := (true, "5a8f20ae7c6d05d897f4eb224be1d20e30613f7a981ad9b507bb644ff5708c62"), looks := false }, kinds := [], alts := [], laidByText := true, laidKinds := [.data], laidTests := true, laidLooks := .later }
def OctetsTextsCardSaid : Prop := Claim7.holds Tryd.pinned (.plain (OpenSpec.ofChange octetsTextsSpec)) octetsTextsCard

/-- THE TIED CARD OF 'tannoylaw01.OctetsSerials'. -/
def octetsSerialsCard : Claim7 := { stood := { row := octetsSerialsRow, standIns := [], harness := (true, "5a8f20ae7c6d05d897f4eb224be1d20e30613f7a981ad9b507bb644ff5708c62"), looks := false }, kinds := [], alts := [], laidByText := true, laidKinds := [.data], laidTests := true, laidLooks := .later }
def OctetsSerialsCardSaid : Prop := Claim7.holds Tryd.pinned (.plain (OpenSpec.ofChange octetsSerialsSpec)) octetsSerialsCard

/-- THE TIED CARD OF 'tannoylaw01.OctetsOrder'. -/
def octetsOrderCard : Claim7 := { stood := { row := octetsOrderRow, standIns := [], harness := (true, "5a8f20ae7c6d05d897f4eb224be1d20e30613f7a981ad9b507bb644ff5708c62"), looks := false }, kinds := [], alts := [], laidByText := true, laidKinds := [.data], laidTests := true, laidLooks := .later }
def OctetsOrderCardSaid : Prop := Claim7.holds Tryd.pinned (.plain (OpenSpec.ofChange octetsOrderSpec)) octetsOrderCard

/-- THE TIED CARD OF 'tannoylaw01.OctetsDigits'. -/
def octetsDigitsCard : Claim7 := { stood := { row := octetsDigitsRow, standIns := [], harness := (true, "5a8f20ae7c6d05d897f4eb224be1d20e30613f7a981ad9b507bb644ff5708c62"), looks := false }, kinds := [], alts := [], laidByText := true, laidKinds := [.data, .data, .pinned, .pinned], laidTests := true, laidLooks := .later }
def OctetsDigitsCardSaid : Prop := Claim7.holds Tryd.pinned (.plain (OpenSpec.ofChange octetsDigitsSpec)) octetsDigitsCard

/-- THE TIED CARD OF 'tannoylaw01.OctetsKnown'. -/
def octetsKnownCard : Claim7 := { stood := { row := octetsKnownRow, standIns := [], harness := (true, "5a8f20ae7c6d05d897f4eb224be1d20e30613f7a981ad9b507bb644ff5708c62"), looks := false }, kinds := [], alts := [], laidByText := true, laidKinds := [.data], laidTests := true, laidLooks := .later }
def OctetsKnownCardSaid : Prop := Claim7.holds Tryd.pinned (.plain (OpenSpec.ofChange octetsKnownSpec)) octetsKnownCard

/-- THE SECOND FORM's CARD OF 'tannoylaw01.OctetsReads'. -/
def octetsReadsUptoCard : Claim7 := { stood := { row := octetsReadsUptoRow, standIns := [], harness := (true, "5a8f20ae7c6d05d897f4eb224be1d20e30613f7a981ad9b507bb644ff5708c62"), looks := false }, kinds := [], alts := [], laidByText := true, laidKinds := [.data], laidTests := true, laidLooks := .later }
def OctetsReadsUptoCardSaid : Prop := Claim7.holds Tryd.pinned (.plain (OpenSpec.upto octetsReadsSpec)) octetsReadsUptoCard

/-- THE SECOND FORM's CARD OF 'tannoylaw01.OctetsWrites'. -/
def octetsWritesUptoCard : Claim7 := { stood := { row := octetsWritesUptoRow, standIns := [], harness := (true, "5a8f20ae7c6d05d897f4eb224be1d20e30613f7a981ad9b507bb644ff5708c62"), looks := false }, kinds := [], alts := [], laidByText := true, laidKinds := [.data], laidTests := true, laidLooks := .later }
def OctetsWritesUptoCardSaid : Prop := Claim7.holds Tryd.pinned (.plain (OpenSpec.upto octetsWritesSpec)) octetsWritesUptoCard

/-- THE SECOND FORM's CARD OF 'tannoylaw01.OctetsTexts'. -/
def octetsTextsUptoCard : Claim7 := { stood := { row := octetsTextsUptoRow, standIns := [], harness := (true, "5a8f20ae7c6d05d897f4eb224be1d20e30613f7a981ad9b507bb644ff5708c62"), looks := false }, kinds := [], alts := [], laidByText := true, laidKinds := [.data], laidTests := true, laidLooks := .later }
def OctetsTextsUptoCardSaid : Prop := Claim7.holds Tryd.pinned (.plain (OpenSpec.upto octetsTextsSpec)) octetsTextsUptoCard

/-- THE SECOND FORM's CARD OF 'tannoylaw01.OctetsSerials'. -/
def octetsSerialsUptoCard : Claim7 := { stood := { row := octetsSerialsUptoRow, standIns := [], harness := (true, "5a8f20ae7c6d05d897f4eb224be1d20e30613f7a981ad9b507bb644ff5708c62"), looks := false }, kinds := [], alts := [], laidByText := true, laidKinds := [.data], laidTests := true, laidLooks := .later }
def OctetsSerialsUptoCardSaid : Prop := Claim7.holds Tryd.pinned (.plain (OpenSpec.upto octetsSerialsSpec)) octetsSerialsUptoCard

/-- THE SECOND FORM's CARD OF 'tannoylaw01.OctetsOrder'. -/
def octetsOrderUptoCard : Claim7 := { stood := { row := octetsOrderUptoRow, standIns := [], harness := (true, "5a8f20ae7c6d05d897f4eb224be1d20e30613f7a981ad9b507bb644ff5708c62"), looks := false }, kinds := [], alts := [], laidByText := true, laidKinds := [.data], laidTests := true, laidLooks := .later }
def OctetsOrderUptoCardSaid : Prop := Claim7.holds Tryd.pinned (.plain (OpenSpec.upto octetsOrderSpec)) octetsOrderUptoCard

/-- THE SECOND FORM's CARD OF 'tannoylaw01.OctetsDigits'. -/
def octetsDigitsUptoCard : Claim7 := { stood := { row := octetsDigitsUptoRow, standIns := [], harness := (true, "5a8f20ae7c6d05d897f4eb224be1d20e30613f7a981ad9b507bb644ff5708c62"), looks := false }, kinds := [], alts := [], laidByText := true, laidKinds := [.data, .data, .pinned, .pinned], laidTests := true, laidLooks := .later }
def OctetsDigitsUptoCardSaid : Prop := Claim7.holds Tryd.pinned (.plain (OpenSpec.upto octetsDigitsSpec)) octetsDigitsUptoCard

/-- THE SECOND FORM's CARD OF 'tannoylaw01.OctetsKnown'. -/
def octetsKnownUptoCard : Claim7 := { stood := { row := octetsKnownUptoRow, standIns := [], harness := (true, "5a8f20ae7c6d05d897f4eb224be1d20e30613f7a981ad9b507bb644ff5708c62"), looks := false }, kinds := [], alts := [], laidByText := true, laidKinds := [.data], laidTests := true, laidLooks := .later }
def OctetsKnownUptoCardSaid : Prop := Claim7.holds Tryd.pinned (.plain (OpenSpec.upto octetsKnownSpec)) octetsKnownUptoCard
end Rows
end Go.Proofs.YtebaagmbnbbflaaDoor
