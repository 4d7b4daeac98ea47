/-
  DERIVED. GIVEN WITH THE SEED: THE CARDS: each row of YtjoogiabimiioaaGreatDoorRows.lean that lists a variable, with what it lists TIED to the program's text (the seventh form; the later family's looks); each row that meets fmt, with fmt's text TOLD by the authors' own Lean function (tested against real Go, not proved from fmt's source: count such statements apart). THE CARD IS WHAT COUNTS. Prove the row's statement (the work); the ties are given (YtjoogiabimiioaaGreatDoorTie.lean); close each card by the builder's one call (the guide's Derived/Test/ToyasCard.lean, 'card_holds'). Laid BY PROGRAM, IN A SANDBOX (cutbox-door.mjs). By AI agents, Wed Nov 11 2026. No macro, syntax, notation, axiom, sorry.
-/
import Derived.Test.YtjoogiabimiioaaGreatDoorRows
import GoSem.ClaimSeven
namespace Go.Proofs.YtjoogiabimiioaaGreatDoor
namespace Rows

/-- THE TIED CARD OF 'tannoylaw07.AddressTexts'. -/
def addressTextsCard : Claim7 := { stood := { row := addressTextsRow, standIns := [], harness := (true, "eb48c6a1957b7865975207e72ac57139fed62dfa2a0c2b404d7d7afe72eb0dc0"), looks := false }, kinds := [], alts := [], laidByText := true, laidKinds := [.data, .data, .data, .data, .pinned], laidTests := true, laidLooks := .later }
def AddressTextsCardSaid : Prop := Claim7.holds Tryz.pinned (.plain (OpenSpec.ofChange addressTextsSpec)) addressTextsCard

/-- THE TIED CARD OF 'tannoylaw07.AddressHosts'. -/
def addressHostsCard : Claim7 := { stood := { row := addressHostsRow, standIns := [], harness := (true, "eb48c6a1957b7865975207e72ac57139fed62dfa2a0c2b404d7d7afe72eb0dc0"), looks := false }, kinds := [], alts := [], laidByText := true, laidKinds := [.data, .data, .data, .data, .pinned], laidTests := true, laidLooks := .later }
def AddressHostsCardSaid : Prop := Claim7.holds Tryz.pinned (.plain (OpenSpec.ofChange addressHostsSpec)) addressHostsCard

/-- THE TIED CARD OF 'tannoylaw07.AddressClasses'. -/
def addressClassesCard : Claim7 := { stood := { row := addressClassesRow, standIns := [], harness := (true, "eb48c6a1957b7865975207e72ac57139fed62dfa2a0c2b404d7d7afe72eb0dc0"), looks := false }, kinds := [], alts := [], laidByText := true, laidKinds := [.data, .data, .data, .data, .pinned], laidTests := true, laidLooks := .later }
def AddressClassesCardSaid : Prop := Claim7.holds Tryz.pinned (.plain (OpenSpec.ofChange addressClassesSpec)) addressClassesCard

/-- THE TIED CARD OF 'tannoylaw07.AddressBack'. -/
def addressBackCard : Claim7 := { stood := { row := addressBackRow, standIns := [], harness := (true, "eb48c6a1957b7865975207e72ac57139fed62dfa2a0c2b404d7d7afe72eb0dc0"), looks := false }, kinds := [], alts := [], laidByText := true, laidKinds := [.data, .data, .data, .data, .pinned], laidTests := true, laidLooks := .later }
def AddressBackCardSaid : Prop := Claim7.holds Tryz.pinned (.plain (OpenSpec.ofChange addressBackSpec)) addressBackCard

/-- THE TIED CARD OF 'tannoylaw07.AddressShort'. -/
def addressShortCard : Claim7 := { stood := { row := addressShortRow, standIns := [], harness := (true, "eb48c6a1957b7865975207e72ac57139fed62dfa2a0c2b404d7d7afe72eb0dc0"), looks := false }, kinds := [], alts := [], laidByText := true, laidKinds := [.data, .data, .data, .data, .pinned], laidTests := true, laidLooks := .later }
def AddressShortCardSaid : Prop := Claim7.holds Tryz.pinned (.plain (OpenSpec.ofChange addressShortSpec)) addressShortCard

/-- THE TIED CARD OF 'tannoylaw07.AddressNets'. -/
def addressNetsCard : Claim7 := { stood := { row := addressNetsRow, standIns := [], harness := (true, "eb48c6a1957b7865975207e72ac57139fed62dfa2a0c2b404d7d7afe72eb0dc0"), looks := false }, kinds := [], alts := [], laidByText := true, laidKinds := [.data, .data, .data, .data, .pinned], laidTests := true, laidLooks := .later }
def AddressNetsCardSaid : Prop := Claim7.holds Tryz.pinned (.plain (OpenSpec.ofChange addressNetsSpec)) addressNetsCard

/-- THE TIED CARD OF 'tannoylaw07.AddressKnown'. -/
def addressKnownCard : Claim7 := { stood := { row := addressKnownRow, standIns := [], harness := (true, "eb48c6a1957b7865975207e72ac57139fed62dfa2a0c2b404d7d7afe72eb0dc0"), looks := false }, kinds := [], alts := [], laidByText := true, laidKinds := [.data, .data, .data, .data, .pinned], laidTests := true, laidLooks := .later }
def AddressKnownCardSaid : Prop := Claim7.holds Tryz.pinned (.plain (OpenSpec.ofChange addressKnownSpec)) addressKnownCard

/-- THE SECOND FORM's CARD OF 'tannoylaw07.AddressTexts'. -/
def addressTextsUptoCard : Claim7 := { stood := { row := addressTextsUptoRow, standIns := [], harness := (true, "eb48c6a1957b7865975207e72ac57139fed62dfa2a0c2b404d7d7afe72eb0dc0"), looks := false }, kinds := [], alts := [], laidByText := true, laidKinds := [.data, .data, .data, .data, .pinned], laidTests := true, laidLooks := .later }
def AddressTextsUptoCardSaid : Prop := Claim7.holds Tryz.pinned (.plain (OpenSpec.upto addressTextsSpec)) addressTextsUptoCard

/-- THE SECOND FORM's CARD OF 'tannoylaw07.AddressHosts'. -/
def addressHostsUptoCard : Claim7 := { stood := { row := addressHostsUptoRow, standIns := [], harness := (true, "eb48c6a1957b7865975207e72ac57139fed62dfa2a0c2b404d7d7afe72eb0dc0"), looks := false }, kinds := [], alts := [], laidByText := true, laidKinds := [.data, .data, .data, .data, .pinned], laidTests := true, laidLooks := .later }
def AddressHostsUptoCardSaid : Prop := Claim7.holds Tryz.pinned (.plain (OpenSpec.upto addressHostsSpec)) addressHostsUptoCard

/-- THE SECOND FORM's CARD OF 'tannoylaw07.AddressClasses'. -/
def addressClassesUptoCard : Claim7 := { stood := { row := addressClassesUptoRow, standIns := [], harness := (true, "eb48c6a1957b7865975207e72ac57139fed62dfa2a0c2b404d7d7afe72eb0dc0"), looks := false }, kinds := [], alts := [], laidByText := true, laidKinds := [.data, .data, .data, .data, .pinned], laidTests := true, laidLooks := .later }
def AddressClassesUptoCardSaid : Prop := Claim7.holds Tryz.pinned (.plain (OpenSpec.upto addressClassesSpec)) addressClassesUptoCard

/-- THE SECOND FORM's CARD OF 'tannoylaw07.AddressBack'. -/
def addressBackUptoCard : Claim7 := { stood := { row := addressBackUptoRow, standIns := [], harness := (true, "eb48c6a1957b7865975207e72ac57139fed62dfa2a0c2b404d7d7afe72eb0dc0"), looks := false }, kinds := [], alts := [], laidByText := true, laidKinds := [.data, .data, .data, .data, .pinned], laidTests := true, laidLooks := .later }
def AddressBackUptoCardSaid : Prop := Claim7.holds Tryz.pinned (.plain (OpenSpec.upto addressBackSpec)) addressBackUptoCard

/-- THE SECOND FORM's CARD OF 'tannoylaw07.AddressShort'. -/
def addressShortUptoCard : Claim7 := { stood := { row := addressShortUptoRow, standIns := [], harness := (true, "eb48c6a1957b7865975207e72ac57139fed62dfa2a0c2b404d7d7afe72eb0dc0"), looks := false }, kinds := [], alts := [], laidByText := true, laidKinds := [.data, .data, .data, .data, .pinned], laidTests := true, laidLooks := .later }
def AddressShortUptoCardSaid : Prop := Claim7.holds Tryz.pinned (.plain (OpenSpec.upto addressShortSpec)) addressShortUptoCard

/-- THE SECOND FORM's CARD OF 'tannoylaw07.AddressNets'. -/
def addressNetsUptoCard : Claim7 := { stood := { row := addressNetsUptoRow, standIns := [], harness := (true, "eb48c6a1957b7865975207e72ac57139fed62dfa2a0c2b404d7d7afe72eb0dc0"), looks := false }, kinds := [], alts := [], laidByText := true, laidKinds := [.data, .data, .data, .data, .pinned], laidTests := true, laidLooks := .later }
def AddressNetsUptoCardSaid : Prop := Claim7.holds Tryz.pinned (.plain (OpenSpec.upto addressNetsSpec)) addressNetsUptoCard

/-- THE SECOND FORM's CARD OF 'tannoylaw07.AddressKnown'. -/
def addressKnownUptoCard : Claim7 := { stood := { row := addressKnownUptoRow, standIns := [], harness := (true, "eb48c6a1957b7865975207e72ac57139fed62dfa2a0c2b404d7d7afe72eb0dc0"), looks := false }, kinds := [], alts := [], laidByText := true, laidKinds := [.data, .data, .data, .data, .pinned], laidTests := true, laidLooks := .later }
def AddressKnownUptoCardSaid : Prop := Claim7.holds Tryz.pinned (.plain (OpenSpec.upto addressKnownSpec)) addressKnownUptoCard
end Rows
end Go.Proofs.YtjoogiabimiioaaGreatDoor
