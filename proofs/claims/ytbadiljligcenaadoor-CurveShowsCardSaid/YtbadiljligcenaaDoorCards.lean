/-
  DERIVED. GIVEN WITH THE SEED: THE CARDS: each row of YtbadiljligcenaaDoorRows.lean that lists a variable, with what it lists TIED to the program's text (the seventh form; the later family's looks); each row that meets fmt, with fmt's text TOLD by the authors' own Lean function (tested against real Go, not proved from fmt's source: count such statements apart). THE CARD IS WHAT COUNTS. Prove the row's statement (the work); the ties are given (YtbadiljligcenaaDoorTie.lean); close each card by the builder's one call (the guide's Derived/Test/ToyasCard.lean, 'card_holds'). Laid BY PROGRAM, IN A SANDBOX (cutbox-door.mjs). By AI agents, Wed Nov 11 2026. No macro, syntax, notation, axiom, sorry.
-/
import Derived.Test.YtbadiljligcenaaDoorRows
import GoSem.ClaimSeven
namespace Go.Proofs.YtbadiljligcenaaDoor
namespace Rows

/-- THE TIED CARD OF 'tannoylaw05.CurveClamps'. -/
def curveClampsCard : Claim7 := { stood := { row := curveClampsRow, standIns := [], harness := (true, "788ad0988ca5b98e95838849759e2de69770b21a4df993b51ab4c781043cefa1"), looks := false }, kinds := [], alts := [], laidByText := true, laidKinds := [.data], laidTests := true, laidLooks := .later }
def CurveClampsCardSaid : Prop := Claim7.holds Tryd.pinned (.plain (OpenSpec.ofChange curveClampsSpec)) curveClampsCard

/-- THE TIED CARD OF 'tannoylaw05.CurveShares'. -/
def curveSharesCard : Claim7 := { stood := { row := curveSharesRow, standIns := [], harness := (true, "788ad0988ca5b98e95838849759e2de69770b21a4df993b51ab4c781043cefa1"), looks := false }, kinds := [], alts := [], laidByText := true, laidKinds := [.data], laidTests := true, laidLooks := .later }
def CurveSharesCardSaid : Prop := Claim7.holds Tryd.pinned (.plain (OpenSpec.ofChange curveSharesSpec)) curveSharesCard

/-- THE TIED CARD OF 'tannoylaw05.CurveShows'. -/
def curveShowsCard : Claim7 := { stood := { row := curveShowsRow, standIns := [], harness := (true, "788ad0988ca5b98e95838849759e2de69770b21a4df993b51ab4c781043cefa1"), looks := false }, kinds := [], alts := [], laidByText := true, laidKinds := [.data], laidTests := true, laidLooks := .later }
def CurveShowsCardSaid : Prop := Claim7.holds Tryd.pinned (.plain (OpenSpec.ofChange curveShowsSpec)) curveShowsCard

/-- THE TIED CARD OF 'tannoylaw05.CurveAgrees'. -/
def curveAgreesCard : Claim7 := { stood := { row := curveAgreesRow, standIns := [], harness := (true, "788ad0988ca5b98e95838849759e2de69770b21a4df993b51ab4c781043cefa1"), looks := false }, kinds := [], alts := [], laidByText := true, laidKinds := [.data], laidTests := true, laidLooks := .later }
def CurveAgreesCardSaid : Prop := Claim7.holds Tryd.pinned (.plain (OpenSpec.ofChange curveAgreesSpec)) curveAgreesCard

/-- THE TIED CARD OF 'tannoylaw05.CurveOrder'. -/
def curveOrderCard : Claim7 := { stood := { row := curveOrderRow, standIns := [], harness := (true, "788ad0988ca5b98e95838849759e2de69770b21a4df993b51ab4c781043cefa1"), looks := false }, kinds := [], alts := [], laidByText := true, laidKinds := [.data], laidTests := true, laidLooks := .later }
def CurveOrderCardSaid : Prop := Claim7.holds Tryd.pinned (.plain (OpenSpec.ofChange curveOrderSpec)) curveOrderCard

/-- THE TIED CARD OF 'tannoylaw05.CurveSame'. -/
def curveSameCard : Claim7 := { stood := { row := curveSameRow, standIns := [], harness := (true, "788ad0988ca5b98e95838849759e2de69770b21a4df993b51ab4c781043cefa1"), looks := false }, kinds := [], alts := [], laidByText := true, laidKinds := [.data], laidTests := true, laidLooks := .later }
def CurveSameCardSaid : Prop := Claim7.holds Tryd.pinned (.plain (OpenSpec.ofChange curveSameSpec)) curveSameCard

/-- THE TIED CARD OF 'tannoylaw05.CurveZero'. -/
def curveZeroCard : Claim7 := { stood := { row := curveZeroRow, standIns := [], harness := (true, "788ad0988ca5b98e95838849759e2de69770b21a4df993b51ab4c781043cefa1"), looks := false }, kinds := [], alts := [], laidByText := true, laidKinds := [.data], laidTests := true, laidLooks := .later }
def CurveZeroCardSaid : Prop := Claim7.holds Tryd.pinned (.plain (OpenSpec.ofChange curveZeroSpec)) curveZeroCard

/-- THE TIED CARD OF 'tannoylaw05.CurveKnown'. -/
def curveKnownCard : Claim7 := { stood := { row := curveKnownRow, standIns := [], harness := (true, "788ad0988ca5b98e95838849759e2de69770b21a4df993b51ab4c781043cefa1"), looks := false }, kinds := [], alts := [], laidByText := true, laidKinds := [.data], laidTests := true, laidLooks := .later }
def CurveKnownCardSaid : Prop := Claim7.holds Tryd.pinned (.plain (OpenSpec.ofChange curveKnownSpec)) curveKnownCard

/-- THE SECOND FORM's CARD OF 'tannoylaw05.CurveClamps'. -/
def curveClampsUptoCard : Claim7 := { stood := { row := curveClampsUptoRow, standIns := [], harness := (true, "788ad0988ca5b98e95838849759e2de69770b21a4df993b51ab4c781043cefa1"), looks := false }, kinds := [], alts := [], laidByText := true, laidKinds := [.data], laidTests := true, laidLooks := .later }
def CurveClampsUptoCardSaid : Prop := Claim7.holds Tryd.pinned (.plain (OpenSpec.upto curveClampsSpec)) curveClampsUptoCard

/-- THE SECOND FORM's CARD OF 'tannoylaw05.CurveShares'. -/
def curveSharesUptoCard : Claim7 := { stood := { row := curveSharesUptoRow, standIns := [], harness := (true, "788ad0988ca5b98e95838849759e2de69770b21a4df993b51ab4c781043cefa1"), looks := false }, kinds := [], alts := [], laidByText := true, laidKinds := [.data], laidTests := true, laidLooks := .later }
def CurveSharesUptoCardSaid : Prop := Claim7.holds Tryd.pinned (.plain (OpenSpec.upto curveSharesSpec)) curveSharesUptoCard

/-- THE SECOND FORM's CARD OF 'tannoylaw05.CurveShows'. -/
def curveShowsUptoCard : Claim7 := { stood := { row := curveShowsUptoRow, standIns := [], harness := (true, "788ad0988ca5b98e95838849759e2de69770b21a4df993b51ab4c781043cefa1"), looks := false }, kinds := [], alts := [], laidByText := true, laidKinds := [.data], laidTests := true, laidLooks := .later }
def CurveShowsUptoCardSaid : Prop := Claim7.holds Tryd.pinned (.plain (OpenSpec.upto curveShowsSpec)) curveShowsUptoCard

/-- THE SECOND FORM's CARD OF 'tannoylaw05.CurveAgrees'. -/
def curveAgreesUptoCard : Claim7 := { stood := { row := curveAgreesUptoRow, standIns := [], harness := (true, "788ad0988ca5b98e95838849759e2de69770b21a4df993b51ab4c781043cefa1"), looks := false }, kinds := [], alts := [], laidByText := true, laidKinds := [.data], laidTests := true, laidLooks := .later }
def CurveAgreesUptoCardSaid : Prop := Claim7.holds Tryd.pinned (.plain (OpenSpec.upto curveAgreesSpec)) curveAgreesUptoCard

/-- THE SECOND FORM's CARD OF 'tannoylaw05.CurveOrder'. -/
def curveOrderUptoCard : Claim7 := { stood := { row := curveOrderUptoRow, standIns := [], harness := (true, "788ad0988ca5b98e95838849759e2de69770b21a4df993b51ab4c781043cefa1"), looks := false }, kinds := [], alts := [], laidByText := true, laidKinds := [.data], laidTests := true, laidLooks := .later }
def CurveOrderUptoCardSaid : Prop := Claim7.holds Tryd.pinned (.plain (OpenSpec.upto curveOrderSpec)) curveOrderUptoCard

/-- THE SECOND FORM's CARD OF 'tannoylaw05.CurveSame'. -/
def curveSameUptoCard : Claim7 := { stood := { row := curveSameUptoRow, standIns := [], harness := (true, "788ad0988ca5b98e95838849759e2de69770b21a4df993b51ab4c781043cefa1"), looks := false }, kinds := [], alts := [], laidByText := true, laidKinds := [.data], laidTests := true, laidLooks := .later }
def CurveSameUptoCardSaid : Prop := Claim7.holds Tryd.pinned (.plain (OpenSpec.upto curveSameSpec)) curveSameUptoCard

/-- THE SECOND FORM's CARD OF 'tannoylaw05.CurveZero'. -/
def curveZeroUptoCard : Claim7 := { stood := { row := curveZeroUptoRow, standIns := [], harness := (true, "788ad0988ca5b98e95838849759e2de69770b21a4df993b51ab4c781043cefa1"), looks := false }, kinds := [], alts := [], laidByText := true, laidKinds := [.data], laidTests := true, laidLooks := .later }
def CurveZeroUptoCardSaid : Prop := Claim7.holds Tryd.pinned (.plain (OpenSpec.upto curveZeroSpec)) curveZeroUptoCard

/-- THE SECOND FORM's CARD OF 'tannoylaw05.CurveKnown'. -/
def curveKnownUptoCard : Claim7 := { stood := { row := curveKnownUptoRow, standIns := [], harness := (true, "788ad0988ca5b98e95838849759e2de69770b21a4df993b51ab4c781043cefa1"), looks := false }, kinds := [], alts := [], laidByText := true, laidKinds := [.data], laidTests := true, laidLooks := .later }
def CurveKnownUptoCardSaid : Prop := Claim7.holds Tryd.pinned (.plain (OpenSpec.upto curveKnownSpec)) curveKnownUptoCard
end Rows
end Go.Proofs.YtbadiljligcenaaDoor
