/-
  NARROWER THAN 'FOR EVERY INPUT', by the rows' own cells (each row's printed sentence says how): OctetsReads: laid · OctetsWrites: laid · OctetsTexts: laid · OctetsSerials: laid · OctetsOrder: laid · OctetsDigits: laid · OctetsKnown: laid.
  DERIVED. THE GIVEN ROWS OF THIS SEAT. 7 by the template 'for every input the law returns true; each argument reads behind the call as it read before'; 0 by the template 'total and deterministic' (their statements: YtebaagmbnbbflaaDoorTotals.lean).
  GIVEN WITH THE SEED: the statements are not yours to turn. If you find one false, say at which input.
  Laid BY PROGRAM, IN A SANDBOX (cutbox-rows.mjs): the forced cells as the released guide's own fill.sh prints them over the translation ca21649cf04d2191… (all of the seat's roots in one cut). By AI agents, Wed Nov 11 2026. No macro, syntax, notation, axiom, sorry.
-/
import Derived.Test.YtebaagmbnbbflaaDoorChecked
import GoSem.PinnedTables
import GoSem.Claim
import GoSem.ClaimJoined
import GoSem.ClaimMapViews
import Derived.JoinedTies
import Derived.KernelRfl
namespace Go.Proofs.YtebaagmbnbbflaaDoor
/- THE CELL 'sum', in the pinned program and in every row, IS THE sha256 OF THE DUMP (.gsa) THAT YtebaagmbnbbflaaDoorProg.lean LOADS. Nothing in Lean hashes anything: it is a label: what it is worth is what the hold of that sum in a sandbox is worth. -/
noncomputable def Tryd.pinned : Pinned := { name := "ytebaagmbnbbflaadoor", sum := "ca21649cf04d21915fe630fae5e5d561423a8bf56314fa34f4edeb54ef6f2394", checked := Tryd.checked }
namespace Rows
def none {H : Type} : Left H := { results := [], args := [] }

/- WHAT THE LISTED PACKAGE-LEVEL VARIABLES READ AS WHEN THE CALL BEGINS. Each datum BY PROGRAM (the guide's laid-datum.mjs) off the statement by which the dump's own 'gosem.cut.vars' lays the variable. In a bare row this is a premise. The card (YtebaagmbnbbflaaDoorCards.lean) ties it to the program's text. -/
def laid_tannoy_octets_digits {H : Type} : DataW H := .agg [.lit (.int .u8 48), .lit (.int .u8 49), .lit (.int .u8 50), .lit (.int .u8 51), .lit (.int .u8 52), .lit (.int .u8 53), .lit (.int .u8 54), .lit (.int .u8 55), .lit (.int .u8 56), .lit (.int .u8 57), .lit (.int .u8 97), .lit (.int .u8 98), .lit (.int .u8 99), .lit (.int .u8 100), .lit (.int .u8 101), .lit (.int .u8 102)]
def laid_unicode_utf8_acceptRanges {H : Type} : DataW H := .agg [.agg [.lit (.int .u8 128), .lit (.int .u8 191)], .agg [.lit (.int .u8 160), .lit (.int .u8 191)], .agg [.lit (.int .u8 128), .lit (.int .u8 159)], .agg [.lit (.int .u8 144), .lit (.int .u8 191)], .agg [.lit (.int .u8 128), .lit (.int .u8 143)], .agg [.lit (.int .u8 0), .lit (.int .u8 0)], .agg [.lit (.int .u8 0), .lit (.int .u8 0)], .agg [.lit (.int .u8 0), .lit (.int .u8 0)], .agg [.lit (.int .u8 0), .lit (.int .u8 0)], .agg [.lit (.int .u8 0), .lit (.int .u8 0)], .agg [.lit (.int .u8 0), .lit (.int .u8 0)], .agg [.lit (.int .u8 0), .lit (.int .u8 0)], .agg [.lit (.int .u8 0), .lit (.int .u8 0)], .agg [.lit (.int .u8 0), .lit (.int .u8 0)], .agg [.lit (.int .u8 0), .lit (.int .u8 0)], .agg [.lit (.int .u8 0), .lit (.int .u8 0)]]
/-- One of Go's own tables, pinned by name: the form's constant. -/
def laid_unicode_CaseRanges : DataW Unit := Go.Pinned.caseRanges
/-- One of Go's own tables, pinned by name: the form's constant. -/
def laid_unicode_utf8_first : DataW Unit := Go.Pinned.utf8First

/-- 'tannoylaw01.OctetsReads': WHATEVER THE INPUT: true; the input reads as it did. -/
def octetsReadsSpec : ChangeSpec := { name := "octetsReads", fn := fun _ => fun
  | [d1, d2, d3, d4] => { results := [.lit (.bool true)], args := [d1, d2, d3, d4] }
  | _ => none }
def octetsReadsRow : OpenClaim := { program := "ytebaagmbnbbflaadoor", sum := "ca21649cf04d21915fe630fae5e5d561423a8bf56314fa34f4edeb54ef6f2394", func := "tannoy/tannoylaw01.OctetsReads", spec := "octetsReads", inPlace := ["internal/abi.NoEscape", "internal/bytealg.MakeNoZero"], unfollowed := true, recurses := true, named := ["tannoy/octets.digits"], apart := false, laid := [("tannoy/octets.digits", laid_tannoy_octets_digits)] }
def OctetsReadsSaid : Prop := octetsReadsRow.holds Tryd.pinned (OpenSpec.ofChange octetsReadsSpec)

/-- ITS FALSE NEIGHBOUR: 'it returns false'. Refute it at one input. -/
def octetsReadsWrong : ChangeSpec := { name := "octetsReads", fn := fun _ => fun
  | [d1, d2, d3, d4] => { results := [.lit (.bool false)], args := [d1, d2, d3, d4] }
  | _ => none }
def OctetsReadsWrongFalsely : Prop := octetsReadsRow.holds Tryd.pinned (OpenSpec.ofChange octetsReadsWrong)

/-- 'tannoylaw01.OctetsWrites': WHATEVER THE INPUT: true; the input reads as it did. -/
def octetsWritesSpec : ChangeSpec := { name := "octetsWrites", fn := fun _ => fun
  | [d1, d2, d3, d4] => { results := [.lit (.bool true)], args := [d1, d2, d3, d4] }
  | _ => none }
def octetsWritesRow : OpenClaim := { program := "ytebaagmbnbbflaadoor", sum := "ca21649cf04d21915fe630fae5e5d561423a8bf56314fa34f4edeb54ef6f2394", func := "tannoy/tannoylaw01.OctetsWrites", spec := "octetsWrites", inPlace := ["internal/abi.NoEscape", "internal/bytealg.MakeNoZero"], unfollowed := true, recurses := true, named := ["tannoy/octets.digits"], apart := false, laid := [("tannoy/octets.digits", laid_tannoy_octets_digits)] }
def OctetsWritesSaid : Prop := octetsWritesRow.holds Tryd.pinned (OpenSpec.ofChange octetsWritesSpec)

/-- ITS FALSE NEIGHBOUR: 'it returns false'. Refute it at one input. -/
def octetsWritesWrong : ChangeSpec := { name := "octetsWrites", fn := fun _ => fun
  | [d1, d2, d3, d4] => { results := [.lit (.bool false)], args := [d1, d2, d3, d4] }
  | _ => none }
def OctetsWritesWrongFalsely : Prop := octetsWritesRow.holds Tryd.pinned (OpenSpec.ofChange octetsWritesWrong)

/-- 'tannoylaw01.OctetsTexts': WHATEVER THE INPUT: true; the input reads as it did. -/
def octetsTextsSpec : ChangeSpec := { name := "octetsTexts", fn := fun _ => fun
  | [d1, d2, d3, d4] => { results := [.lit (.bool true)], args := [d1, d2, d3, d4] }
  | _ => none }
def octetsTextsRow : OpenClaim := { program := "ytebaagmbnbbflaadoor", sum := "ca21649cf04d21915fe630fae5e5d561423a8bf56314fa34f4edeb54ef6f2394", func := "tannoy/tannoylaw01.OctetsTexts", spec := "octetsTexts", inPlace := ["internal/abi.NoEscape", "internal/bytealg.MakeNoZero"], unfollowed := true, recurses := true, named := ["tannoy/octets.digits"], apart := false, laid := [("tannoy/octets.digits", laid_tannoy_octets_digits)] }
def OctetsTextsSaid : Prop := octetsTextsRow.holds Tryd.pinned (OpenSpec.ofChange octetsTextsSpec)

/-- ITS FALSE NEIGHBOUR: 'it returns false'. Refute it at one input. -/
def octetsTextsWrong : ChangeSpec := { name := "octetsTexts", fn := fun _ => fun
  | [d1, d2, d3, d4] => { results := [.lit (.bool false)], args := [d1, d2, d3, d4] }
  | _ => none }
def OctetsTextsWrongFalsely : Prop := octetsTextsRow.holds Tryd.pinned (OpenSpec.ofChange octetsTextsWrong)

/-- 'tannoylaw01.OctetsSerials': WHATEVER THE INPUT: true; the input reads as it did. -/
def octetsSerialsSpec : ChangeSpec := { name := "octetsSerials", fn := fun _ => fun
  | [d1, d2, d3, d4] => { results := [.lit (.bool true)], args := [d1, d2, d3, d4] }
  | _ => none }
def octetsSerialsRow : OpenClaim := { program := "ytebaagmbnbbflaadoor", sum := "ca21649cf04d21915fe630fae5e5d561423a8bf56314fa34f4edeb54ef6f2394", func := "tannoy/tannoylaw01.OctetsSerials", spec := "octetsSerials", inPlace := ["internal/abi.NoEscape", "internal/bytealg.MakeNoZero"], unfollowed := true, recurses := true, named := ["tannoy/octets.digits"], apart := false, laid := [("tannoy/octets.digits", laid_tannoy_octets_digits)] }
def OctetsSerialsSaid : Prop := octetsSerialsRow.holds Tryd.pinned (OpenSpec.ofChange octetsSerialsSpec)

/-- ITS FALSE NEIGHBOUR: 'it returns false'. Refute it at one input. -/
def octetsSerialsWrong : ChangeSpec := { name := "octetsSerials", fn := fun _ => fun
  | [d1, d2, d3, d4] => { results := [.lit (.bool false)], args := [d1, d2, d3, d4] }
  | _ => none }
def OctetsSerialsWrongFalsely : Prop := octetsSerialsRow.holds Tryd.pinned (OpenSpec.ofChange octetsSerialsWrong)

/-- 'tannoylaw01.OctetsOrder': WHATEVER THE INPUT: true; the input reads as it did. -/
def octetsOrderSpec : ChangeSpec := { name := "octetsOrder", fn := fun _ => fun
  | [d1, d2, d3, d4] => { results := [.lit (.bool true)], args := [d1, d2, d3, d4] }
  | _ => none }
def octetsOrderRow : OpenClaim := { program := "ytebaagmbnbbflaadoor", sum := "ca21649cf04d21915fe630fae5e5d561423a8bf56314fa34f4edeb54ef6f2394", func := "tannoy/tannoylaw01.OctetsOrder", spec := "octetsOrder", inPlace := ["internal/abi.NoEscape", "internal/bytealg.MakeNoZero"], unfollowed := true, recurses := true, named := ["tannoy/octets.digits"], apart := false, laid := [("tannoy/octets.digits", laid_tannoy_octets_digits)] }
def OctetsOrderSaid : Prop := octetsOrderRow.holds Tryd.pinned (OpenSpec.ofChange octetsOrderSpec)

/-- ITS FALSE NEIGHBOUR: 'it returns false'. Refute it at one input. -/
def octetsOrderWrong : ChangeSpec := { name := "octetsOrder", fn := fun _ => fun
  | [d1, d2, d3, d4] => { results := [.lit (.bool false)], args := [d1, d2, d3, d4] }
  | _ => none }
def OctetsOrderWrongFalsely : Prop := octetsOrderRow.holds Tryd.pinned (OpenSpec.ofChange octetsOrderWrong)

/-- 'tannoylaw01.OctetsDigits': WHATEVER THE INPUT: true; the input reads as it did. -/
def octetsDigitsSpec : ChangeSpec := { name := "octetsDigits", fn := fun _ => fun
  | [d1, d2] => { results := [.lit (.bool true)], args := [d1, d2] }
  | _ => none }
def octetsDigitsRow : OpenClaim := { program := "ytebaagmbnbbflaadoor", sum := "ca21649cf04d21915fe630fae5e5d561423a8bf56314fa34f4edeb54ef6f2394", func := "tannoy/tannoylaw01.OctetsDigits", spec := "octetsDigits", inPlace := ["internal/abi.NoEscape", "internal/bytealg.MakeNoZero"], unfollowed := true, recurses := true, named := ["tannoy/octets.digits", "unicode/utf8.first", "unicode/utf8.acceptRanges", "unicode.CaseRanges"], apart := false, laid := [("unicode/utf8.acceptRanges", laid_unicode_utf8_acceptRanges), ("tannoy/octets.digits", laid_tannoy_octets_digits), ("unicode.CaseRanges", laid_unicode_CaseRanges), ("unicode/utf8.first", laid_unicode_utf8_first)] }
def OctetsDigitsSaid : Prop := octetsDigitsRow.holds Tryd.pinned (OpenSpec.ofChange octetsDigitsSpec)

/-- ITS FALSE NEIGHBOUR: 'it returns false'. Refute it at one input. -/
def octetsDigitsWrong : ChangeSpec := { name := "octetsDigits", fn := fun _ => fun
  | [d1, d2] => { results := [.lit (.bool false)], args := [d1, d2] }
  | _ => none }
def OctetsDigitsWrongFalsely : Prop := octetsDigitsRow.holds Tryd.pinned (OpenSpec.ofChange octetsDigitsWrong)

/-- 'tannoylaw01.OctetsKnown': WHATEVER THE INPUT: true; the input reads as it did. -/
def octetsKnownSpec : ChangeSpec := { name := "octetsKnown", fn := fun _ => fun
  | [] => { results := [.lit (.bool true)], args := [] }
  | _ => none }
def octetsKnownRow : OpenClaim := { program := "ytebaagmbnbbflaadoor", sum := "ca21649cf04d21915fe630fae5e5d561423a8bf56314fa34f4edeb54ef6f2394", func := "tannoy/tannoylaw01.OctetsKnown", spec := "octetsKnown", inPlace := ["internal/abi.NoEscape", "internal/bytealg.MakeNoZero"], unfollowed := true, recurses := true, named := ["tannoy/octets.digits"], apart := false, laid := [("tannoy/octets.digits", laid_tannoy_octets_digits)] }
def OctetsKnownSaid : Prop := octetsKnownRow.holds Tryd.pinned (OpenSpec.ofChange octetsKnownSpec)

/-- ITS FALSE NEIGHBOUR: 'it returns false'. Refute it at one input. -/
def octetsKnownWrong : ChangeSpec := { name := "octetsKnown", fn := fun _ => fun
  | [] => { results := [.lit (.bool false)], args := [] }
  | _ => none }
def OctetsKnownWrongFalsely : Prop := octetsKnownRow.holds Tryd.pinned (OpenSpec.ofChange octetsKnownWrong)

/- THE SECOND FORM. 'bulk': how many values and letters a reading holds, each counted each time it is reached (what is shared counts as often as it is met; a slice's spare places count too). A statement '..UptoSaid' is the law's where the arguments, and the package variables that the reading takes, are together of bulk at most 1048576: NARROWER than '..Said'. Prove '..Said' where nothing that the law and all that it calls make is longer than what came in: it says more and counts as full. Else prove '..UptoSaid'. A law counts once. -/
mutual
def uptoBulk {H : Type} : DataW H → Nat
  | .lit (.string bytes) => bytes.length + 1
  | .lit _ => 1
  | .nil => 1
  | .ptr d => uptoBulk d + 1
  | .slice elems spare => uptoBulkAll elems + uptoBulkAll spare + 1
  | .agg parts => uptoBulkAll parts + 1
  | .iface _ d => uptoBulk d + 1
  | .map entries => uptoBulkEntries entries + 1
  | .held _ => 1
def uptoBulkAll {H : Type} : List (DataW H) → Nat
  | [] => 0
  | d :: r => uptoBulk d + uptoBulkAll r
def uptoBulkEntries {H : Type} : List (Lit × DataW H) → Nat
  | [] => 0
  | x :: r => uptoBulkEntry x + uptoBulkEntries r
def uptoBulkEntry {H : Type} : Lit × DataW H → Nat
  | (.string bytes, d) => bytes.length + uptoBulk d + 1
  | (_, d) => uptoBulk d + 1
 end
def uptoSmall : (H : Type) → List (DataW H) → Bool := fun _ ds => decide (uptoBulkAll ds ≤ 1048576)
def OpenSpec.upto (s : _root_.Go.ChangeSpec) : _root_.Go.OpenSpec := { _root_.Go.OpenSpec.ofChange s with cond := some uptoSmall }

/-- 'tannoylaw01.OctetsReads', WHERE WHAT IT READS IS OF BULK AT MOST 1048576: true; the input reads as it did. -/
def octetsReadsUptoRow : OpenClaim := { program := "ytebaagmbnbbflaadoor", sum := "ca21649cf04d21915fe630fae5e5d561423a8bf56314fa34f4edeb54ef6f2394", func := "tannoy/tannoylaw01.OctetsReads", spec := "octetsReads", inPlace := ["internal/abi.NoEscape", "internal/bytealg.MakeNoZero"], unfollowed := true, recurses := true, named := ["tannoy/octets.digits"], apart := false, laid := [("tannoy/octets.digits", laid_tannoy_octets_digits)], narrowed := true }
def OctetsReadsUptoSaid : Prop := octetsReadsUptoRow.holds Tryd.pinned (OpenSpec.upto octetsReadsSpec)

/-- 'tannoylaw01.OctetsWrites', WHERE WHAT IT READS IS OF BULK AT MOST 1048576: true; the input reads as it did. -/
def octetsWritesUptoRow : OpenClaim := { program := "ytebaagmbnbbflaadoor", sum := "ca21649cf04d21915fe630fae5e5d561423a8bf56314fa34f4edeb54ef6f2394", func := "tannoy/tannoylaw01.OctetsWrites", spec := "octetsWrites", inPlace := ["internal/abi.NoEscape", "internal/bytealg.MakeNoZero"], unfollowed := true, recurses := true, named := ["tannoy/octets.digits"], apart := false, laid := [("tannoy/octets.digits", laid_tannoy_octets_digits)], narrowed := true }
def OctetsWritesUptoSaid : Prop := octetsWritesUptoRow.holds Tryd.pinned (OpenSpec.upto octetsWritesSpec)

/-- 'tannoylaw01.OctetsTexts', WHERE WHAT IT READS IS OF BULK AT MOST 1048576: true; the input reads as it did. -/
def octetsTextsUptoRow : OpenClaim := { program := "ytebaagmbnbbflaadoor", sum := "ca21649cf04d21915fe630fae5e5d561423a8bf56314fa34f4edeb54ef6f2394", func := "tannoy/tannoylaw01.OctetsTexts", spec := "octetsTexts", inPlace := ["internal/abi.NoEscape", "internal/bytealg.MakeNoZero"], unfollowed := true, recurses := true, named := ["tannoy/octets.digits"], apart := false, laid := [("tannoy/octets.digits", laid_tannoy_octets_digits)], narrowed := true }
def OctetsTextsUptoSaid : Prop := octetsTextsUptoRow.holds Tryd.pinned (OpenSpec.upto octetsTextsSpec)

/-- 'tannoylaw01.OctetsSerials', WHERE WHAT IT READS IS OF BULK AT MOST 1048576: true; the input reads as it did. -/
def octetsSerialsUptoRow : OpenClaim := { program := "ytebaagmbnbbflaadoor", sum := "ca21649cf04d21915fe630fae5e5d561423a8bf56314fa34f4edeb54ef6f2394", func := "tannoy/tannoylaw01.OctetsSerials", spec := "octetsSerials", inPlace := ["internal/abi.NoEscape", "internal/bytealg.MakeNoZero"], unfollowed := true, recurses := true, named := ["tannoy/octets.digits"], apart := false, laid := [("tannoy/octets.digits", laid_tannoy_octets_digits)], narrowed := true }
def OctetsSerialsUptoSaid : Prop := octetsSerialsUptoRow.holds Tryd.pinned (OpenSpec.upto octetsSerialsSpec)

/-- 'tannoylaw01.OctetsOrder', WHERE WHAT IT READS IS OF BULK AT MOST 1048576: true; the input reads as it did. -/
def octetsOrderUptoRow : OpenClaim := { program := "ytebaagmbnbbflaadoor", sum := "ca21649cf04d21915fe630fae5e5d561423a8bf56314fa34f4edeb54ef6f2394", func := "tannoy/tannoylaw01.OctetsOrder", spec := "octetsOrder", inPlace := ["internal/abi.NoEscape", "internal/bytealg.MakeNoZero"], unfollowed := true, recurses := true, named := ["tannoy/octets.digits"], apart := false, laid := [("tannoy/octets.digits", laid_tannoy_octets_digits)], narrowed := true }
def OctetsOrderUptoSaid : Prop := octetsOrderUptoRow.holds Tryd.pinned (OpenSpec.upto octetsOrderSpec)

/-- 'tannoylaw01.OctetsDigits', WHERE WHAT IT READS IS OF BULK AT MOST 1048576: true; the input reads as it did. -/
def octetsDigitsUptoRow : OpenClaim := { program := "ytebaagmbnbbflaadoor", sum := "ca21649cf04d21915fe630fae5e5d561423a8bf56314fa34f4edeb54ef6f2394", func := "tannoy/tannoylaw01.OctetsDigits", spec := "octetsDigits", inPlace := ["internal/abi.NoEscape", "internal/bytealg.MakeNoZero"], unfollowed := true, recurses := true, named := ["tannoy/octets.digits", "unicode/utf8.first", "unicode/utf8.acceptRanges", "unicode.CaseRanges"], apart := false, laid := [("unicode/utf8.acceptRanges", laid_unicode_utf8_acceptRanges), ("tannoy/octets.digits", laid_tannoy_octets_digits), ("unicode.CaseRanges", laid_unicode_CaseRanges), ("unicode/utf8.first", laid_unicode_utf8_first)], narrowed := true }
def OctetsDigitsUptoSaid : Prop := octetsDigitsUptoRow.holds Tryd.pinned (OpenSpec.upto octetsDigitsSpec)

/-- 'tannoylaw01.OctetsKnown', WHERE WHAT IT READS IS OF BULK AT MOST 1048576: true; the input reads as it did. -/
def octetsKnownUptoRow : OpenClaim := { program := "ytebaagmbnbbflaadoor", sum := "ca21649cf04d21915fe630fae5e5d561423a8bf56314fa34f4edeb54ef6f2394", func := "tannoy/tannoylaw01.OctetsKnown", spec := "octetsKnown", inPlace := ["internal/abi.NoEscape", "internal/bytealg.MakeNoZero"], unfollowed := true, recurses := true, named := ["tannoy/octets.digits"], apart := false, laid := [("tannoy/octets.digits", laid_tannoy_octets_digits)], narrowed := true }
def OctetsKnownUptoSaid : Prop := octetsKnownUptoRow.holds Tryd.pinned (OpenSpec.upto octetsKnownSpec)

end Rows
end Go.Proofs.YtebaagmbnbbflaaDoor
