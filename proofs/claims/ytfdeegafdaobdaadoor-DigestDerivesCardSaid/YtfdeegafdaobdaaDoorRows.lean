/-
  NARROWER THAN 'FOR EVERY INPUT', by the rows' own cells (each row's printed sentence says how): DigestSums: laid · DigestPieces: laid · DigestDerives: laid · DigestCuts: laid · DigestKeys: laid · DigestPrefix: laid · DigestKnown: laid.
  DERIVED. THE GIVEN ROWS OF THIS SEAT. 7 by the template 'for every input the law returns true; each argument reads behind the call as it read before'; 0 by the template 'total and deterministic' (their statements: YtfdeegafdaobdaaDoorTotals.lean).
  GIVEN WITH THE SEED: the statements are not yours to turn. If you find one false, say at which input.
  Laid BY PROGRAM, IN A SANDBOX (cutbox-rows.mjs): the forced cells as the released guide's own fill.sh prints them over the translation 7d7b56deeb5aa356… (all of the seat's roots in one cut). By AI agents, Wed Nov 11 2026. No macro, syntax, notation, axiom, sorry.
-/
import Derived.Test.YtfdeegafdaobdaaDoorChecked
import GoSem.Claim
import GoSem.ClaimJoined
import GoSem.ClaimMapViews
import Derived.JoinedTies
import Derived.KernelRfl
namespace Go.Proofs.YtfdeegafdaobdaaDoor
/- THE CELL 'sum', in the pinned program and in every row, IS THE sha256 OF THE DUMP (.gsa) THAT YtfdeegafdaobdaaDoorProg.lean LOADS. Nothing in Lean hashes anything: it is a label: what it is worth is what the hold of that sum in a sandbox is worth. -/
noncomputable def Tryd.pinned : Pinned := { name := "ytfdeegafdaobdaadoor", sum := "7d7b56deeb5aa3566ed48dfdb12224a8395fecf50a8f985b328650c8a9964abe", checked := Tryd.checked }
namespace Rows
def none {H : Type} : Left H := { results := [], args := [] }

/- WHAT THE LISTED PACKAGE-LEVEL VARIABLES READ AS WHEN THE CALL BEGINS. Each datum BY PROGRAM (the guide's laid-datum.mjs) off the statement by which the dump's own 'gosem.cut.vars' lays the variable. In a bare row this is a premise. The card (YtfdeegafdaobdaaDoorCards.lean) ties it to the program's text. -/
def laid_tannoy_octets_digits {H : Type} : DataW H := .agg [.lit (.int .u8 48), .lit (.int .u8 49), .lit (.int .u8 50), .lit (.int .u8 51), .lit (.int .u8 52), .lit (.int .u8 53), .lit (.int .u8 54), .lit (.int .u8 55), .lit (.int .u8 56), .lit (.int .u8 57), .lit (.int .u8 97), .lit (.int .u8 98), .lit (.int .u8 99), .lit (.int .u8 100), .lit (.int .u8 101), .lit (.int .u8 102)]

/-- 'tannoylaw02.DigestSums': WHATEVER THE INPUT: true; the input reads as it did. -/
def digestSumsSpec : ChangeSpec := { name := "digestSums", fn := fun _ => fun
  | [d1, d2, d3, d4] => { results := [.lit (.bool true)], args := [d1, d2, d3, d4] }
  | _ => none }
def digestSumsRow : OpenClaim := { program := "ytfdeegafdaobdaadoor", sum := "7d7b56deeb5aa3566ed48dfdb12224a8395fecf50a8f985b328650c8a9964abe", func := "tannoy/tannoylaw02.DigestSums", spec := "digestSums", inPlace := ["internal/abi.NoEscape", "internal/bytealg.MakeNoZero", "math/bits.Add64"], unfollowed := true, recurses := true, named := ["tannoy/octets.digits"], apart := false, laid := [("tannoy/octets.digits", laid_tannoy_octets_digits)] }
def DigestSumsSaid : Prop := digestSumsRow.holds Tryd.pinned (OpenSpec.ofChange digestSumsSpec)

/-- ITS FALSE NEIGHBOUR: 'it returns false'. Refute it at one input. -/
def digestSumsWrong : ChangeSpec := { name := "digestSums", fn := fun _ => fun
  | [d1, d2, d3, d4] => { results := [.lit (.bool false)], args := [d1, d2, d3, d4] }
  | _ => none }
def DigestSumsWrongFalsely : Prop := digestSumsRow.holds Tryd.pinned (OpenSpec.ofChange digestSumsWrong)

/-- 'tannoylaw02.DigestPieces': WHATEVER THE INPUT: true; the input reads as it did. -/
def digestPiecesSpec : ChangeSpec := { name := "digestPieces", fn := fun _ => fun
  | [d1, d2, d3, d4] => { results := [.lit (.bool true)], args := [d1, d2, d3, d4] }
  | _ => none }
def digestPiecesRow : OpenClaim := { program := "ytfdeegafdaobdaadoor", sum := "7d7b56deeb5aa3566ed48dfdb12224a8395fecf50a8f985b328650c8a9964abe", func := "tannoy/tannoylaw02.DigestPieces", spec := "digestPieces", inPlace := ["internal/abi.NoEscape", "internal/bytealg.MakeNoZero", "math/bits.Add64"], unfollowed := true, recurses := true, named := ["tannoy/octets.digits"], apart := false, laid := [("tannoy/octets.digits", laid_tannoy_octets_digits)] }
def DigestPiecesSaid : Prop := digestPiecesRow.holds Tryd.pinned (OpenSpec.ofChange digestPiecesSpec)

/-- ITS FALSE NEIGHBOUR: 'it returns false'. Refute it at one input. -/
def digestPiecesWrong : ChangeSpec := { name := "digestPieces", fn := fun _ => fun
  | [d1, d2, d3, d4] => { results := [.lit (.bool false)], args := [d1, d2, d3, d4] }
  | _ => none }
def DigestPiecesWrongFalsely : Prop := digestPiecesRow.holds Tryd.pinned (OpenSpec.ofChange digestPiecesWrong)

/-- 'tannoylaw02.DigestDerives': WHATEVER THE INPUT: true; the input reads as it did. -/
def digestDerivesSpec : ChangeSpec := { name := "digestDerives", fn := fun _ => fun
  | [d1, d2, d3, d4, d5, d6] => { results := [.lit (.bool true)], args := [d1, d2, d3, d4, d5, d6] }
  | _ => none }
def digestDerivesRow : OpenClaim := { program := "ytfdeegafdaobdaadoor", sum := "7d7b56deeb5aa3566ed48dfdb12224a8395fecf50a8f985b328650c8a9964abe", func := "tannoy/tannoylaw02.DigestDerives", spec := "digestDerives", inPlace := ["internal/abi.NoEscape", "internal/bytealg.MakeNoZero", "math/bits.Add64"], unfollowed := true, recurses := true, named := ["tannoy/octets.digits"], apart := false, laid := [("tannoy/octets.digits", laid_tannoy_octets_digits)] }
def DigestDerivesSaid : Prop := digestDerivesRow.holds Tryd.pinned (OpenSpec.ofChange digestDerivesSpec)

/-- ITS FALSE NEIGHBOUR: 'it returns false'. Refute it at one input. -/
def digestDerivesWrong : ChangeSpec := { name := "digestDerives", fn := fun _ => fun
  | [d1, d2, d3, d4, d5, d6] => { results := [.lit (.bool false)], args := [d1, d2, d3, d4, d5, d6] }
  | _ => none }
def DigestDerivesWrongFalsely : Prop := digestDerivesRow.holds Tryd.pinned (OpenSpec.ofChange digestDerivesWrong)

/-- 'tannoylaw02.DigestCuts': WHATEVER THE INPUT: true; the input reads as it did. -/
def digestCutsSpec : ChangeSpec := { name := "digestCuts", fn := fun _ => fun
  | [d] => { results := [.lit (.bool true)], args := [d] }
  | _ => none }
def digestCutsRow : OpenClaim := { program := "ytfdeegafdaobdaadoor", sum := "7d7b56deeb5aa3566ed48dfdb12224a8395fecf50a8f985b328650c8a9964abe", func := "tannoy/tannoylaw02.DigestCuts", spec := "digestCuts", inPlace := ["internal/abi.NoEscape", "internal/bytealg.MakeNoZero"], unfollowed := true, recurses := true, named := ["tannoy/octets.digits"], apart := false, laid := [("tannoy/octets.digits", laid_tannoy_octets_digits)] }
def DigestCutsSaid : Prop := digestCutsRow.holds Tryd.pinned (OpenSpec.ofChange digestCutsSpec)

/-- ITS FALSE NEIGHBOUR: 'it returns false'. Refute it at one input. -/
def digestCutsWrong : ChangeSpec := { name := "digestCuts", fn := fun _ => fun
  | [d] => { results := [.lit (.bool false)], args := [d] }
  | _ => none }
def DigestCutsWrongFalsely : Prop := digestCutsRow.holds Tryd.pinned (OpenSpec.ofChange digestCutsWrong)

/-- 'tannoylaw02.DigestKeys': WHATEVER THE INPUT: true; the input reads as it did. -/
def digestKeysSpec : ChangeSpec := { name := "digestKeys", fn := fun _ => fun
  | [d1, d2, d3] => { results := [.lit (.bool true)], args := [d1, d2, d3] }
  | _ => none }
def digestKeysRow : OpenClaim := { program := "ytfdeegafdaobdaadoor", sum := "7d7b56deeb5aa3566ed48dfdb12224a8395fecf50a8f985b328650c8a9964abe", func := "tannoy/tannoylaw02.DigestKeys", spec := "digestKeys", inPlace := ["internal/abi.NoEscape", "internal/bytealg.MakeNoZero"], unfollowed := true, recurses := true, named := ["tannoy/octets.digits"], apart := false, laid := [("tannoy/octets.digits", laid_tannoy_octets_digits)] }
def DigestKeysSaid : Prop := digestKeysRow.holds Tryd.pinned (OpenSpec.ofChange digestKeysSpec)

/-- ITS FALSE NEIGHBOUR: 'it returns false'. Refute it at one input. -/
def digestKeysWrong : ChangeSpec := { name := "digestKeys", fn := fun _ => fun
  | [d1, d2, d3] => { results := [.lit (.bool false)], args := [d1, d2, d3] }
  | _ => none }
def DigestKeysWrongFalsely : Prop := digestKeysRow.holds Tryd.pinned (OpenSpec.ofChange digestKeysWrong)

/-- 'tannoylaw02.DigestPrefix': WHATEVER THE INPUT: true; the input reads as it did. -/
def digestPrefixSpec : ChangeSpec := { name := "digestPrefix", fn := fun _ => fun
  | [d1, d2, d3, d4, d5] => { results := [.lit (.bool true)], args := [d1, d2, d3, d4, d5] }
  | _ => none }
def digestPrefixRow : OpenClaim := { program := "ytfdeegafdaobdaadoor", sum := "7d7b56deeb5aa3566ed48dfdb12224a8395fecf50a8f985b328650c8a9964abe", func := "tannoy/tannoylaw02.DigestPrefix", spec := "digestPrefix", inPlace := ["internal/abi.NoEscape", "internal/bytealg.MakeNoZero"], unfollowed := true, recurses := true, named := ["tannoy/octets.digits"], apart := false, laid := [("tannoy/octets.digits", laid_tannoy_octets_digits)] }
def DigestPrefixSaid : Prop := digestPrefixRow.holds Tryd.pinned (OpenSpec.ofChange digestPrefixSpec)

/-- ITS FALSE NEIGHBOUR: 'it returns false'. Refute it at one input. -/
def digestPrefixWrong : ChangeSpec := { name := "digestPrefix", fn := fun _ => fun
  | [d1, d2, d3, d4, d5] => { results := [.lit (.bool false)], args := [d1, d2, d3, d4, d5] }
  | _ => none }
def DigestPrefixWrongFalsely : Prop := digestPrefixRow.holds Tryd.pinned (OpenSpec.ofChange digestPrefixWrong)

/-- 'tannoylaw02.DigestKnown': WHATEVER THE INPUT: true; the input reads as it did. -/
def digestKnownSpec : ChangeSpec := { name := "digestKnown", fn := fun _ => fun
  | [] => { results := [.lit (.bool true)], args := [] }
  | _ => none }
def digestKnownRow : OpenClaim := { program := "ytfdeegafdaobdaadoor", sum := "7d7b56deeb5aa3566ed48dfdb12224a8395fecf50a8f985b328650c8a9964abe", func := "tannoy/tannoylaw02.DigestKnown", spec := "digestKnown", inPlace := ["internal/abi.NoEscape", "internal/bytealg.MakeNoZero"], unfollowed := true, recurses := true, named := ["tannoy/octets.digits"], apart := false, laid := [("tannoy/octets.digits", laid_tannoy_octets_digits)] }
def DigestKnownSaid : Prop := digestKnownRow.holds Tryd.pinned (OpenSpec.ofChange digestKnownSpec)

/-- ITS FALSE NEIGHBOUR: 'it returns false'. Refute it at one input. -/
def digestKnownWrong : ChangeSpec := { name := "digestKnown", fn := fun _ => fun
  | [] => { results := [.lit (.bool false)], args := [] }
  | _ => none }
def DigestKnownWrongFalsely : Prop := digestKnownRow.holds Tryd.pinned (OpenSpec.ofChange digestKnownWrong)

/- THE SECOND FORM. 'bulk': how many values and letters a reading holds, each counted each time it is reached (what is shared counts as often as it is met; a slice's spare places count too). A statement '..UptoSaid' is the law's where the arguments, and the package variables that the reading takes, are together of bulk at most 1048576: NARROWER than '..Said'. Prove '..Said' where nothing that the law and all that it calls make is longer than what came in: it says more and counts as full. Else prove '..UptoSaid'. A law counts once. -/
mutual
def uptoBulk {H : Type} : DataW H → Nat
  | .lit (.string bytes) => bytes.length + 1
  | .lit _ => 1
  | .nil => 1
  | .ptr d => uptoBulk d + 1
  | .slice elems spare => uptoBulkAll elems + uptoBulkAll spare + 1
  | .agg parts => uptoBulkAll parts + 1
  | .iface _ d => uptoBulk d + 1
  | .map entries => uptoBulkEntries entries + 1
  | .held _ => 1
def uptoBulkAll {H : Type} : List (DataW H) → Nat
  | [] => 0
  | d :: r => uptoBulk d + uptoBulkAll r
def uptoBulkEntries {H : Type} : List (Lit × DataW H) → Nat
  | [] => 0
  | x :: r => uptoBulkEntry x + uptoBulkEntries r
def uptoBulkEntry {H : Type} : Lit × DataW H → Nat
  | (.string bytes, d) => bytes.length + uptoBulk d + 1
  | (_, d) => uptoBulk d + 1
 end
def uptoSmall : (H : Type) → List (DataW H) → Bool := fun _ ds => decide (uptoBulkAll ds ≤ 1048576)
def OpenSpec.upto (s : _root_.Go.ChangeSpec) : _root_.Go.OpenSpec := { _root_.Go.OpenSpec.ofChange s with cond := some uptoSmall }

/-- 'tannoylaw02.DigestSums', WHERE WHAT IT READS IS OF BULK AT MOST 1048576: true; the input reads as it did. -/
def digestSumsUptoRow : OpenClaim := { program := "ytfdeegafdaobdaadoor", sum := "7d7b56deeb5aa3566ed48dfdb12224a8395fecf50a8f985b328650c8a9964abe", func := "tannoy/tannoylaw02.DigestSums", spec := "digestSums", inPlace := ["internal/abi.NoEscape", "internal/bytealg.MakeNoZero", "math/bits.Add64"], unfollowed := true, recurses := true, named := ["tannoy/octets.digits"], apart := false, laid := [("tannoy/octets.digits", laid_tannoy_octets_digits)], narrowed := true }
def DigestSumsUptoSaid : Prop := digestSumsUptoRow.holds Tryd.pinned (OpenSpec.upto digestSumsSpec)

/-- 'tannoylaw02.DigestPieces', WHERE WHAT IT READS IS OF BULK AT MOST 1048576: true; the input reads as it did. -/
def digestPiecesUptoRow : OpenClaim := { program := "ytfdeegafdaobdaadoor", sum := "7d7b56deeb5aa3566ed48dfdb12224a8395fecf50a8f985b328650c8a9964abe", func := "tannoy/tannoylaw02.DigestPieces", spec := "digestPieces", inPlace := ["internal/abi.NoEscape", "internal/bytealg.MakeNoZero", "math/bits.Add64"], unfollowed := true, recurses := true, named := ["tannoy/octets.digits"], apart := false, laid := [("tannoy/octets.digits", laid_tannoy_octets_digits)], narrowed := true }
def DigestPiecesUptoSaid : Prop := digestPiecesUptoRow.holds Tryd.pinned (OpenSpec.upto digestPiecesSpec)

/-- 'tannoylaw02.DigestDerives', WHERE WHAT IT READS IS OF BULK AT MOST 1048576: true; the input reads as it did. -/
def digestDerivesUptoRow : OpenClaim := { program := "ytfdeegafdaobdaadoor", sum := "7d7b56deeb5aa3566ed48dfdb12224a8395fecf50a8f985b328650c8a9964abe", func := "tannoy/tannoylaw02.DigestDerives", spec := "digestDerives", inPlace := ["internal/abi.NoEscape", "internal/bytealg.MakeNoZero", "math/bits.Add64"], unfollowed := true, recurses := true, named := ["tannoy/octets.digits"], apart := false, laid := [("tannoy/octets.digits", laid_tannoy_octets_digits)], narrowed := true }
def DigestDerivesUptoSaid : Prop := digestDerivesUptoRow.holds Tryd.pinned (OpenSpec.upto digestDerivesSpec)

/-- 'tannoylaw02.DigestCuts', WHERE WHAT IT READS IS OF BULK AT MOST 1048576: true; the input reads as it did. -/
def digestCutsUptoRow : OpenClaim := { program := "ytfdeegafdaobdaadoor", sum := "7d7b56deeb5aa3566ed48dfdb12224a8395fecf50a8f985b328650c8a9964abe", func := "tannoy/tannoylaw02.DigestCuts", spec := "digestCuts", inPlace := ["internal/abi.NoEscape", "internal/bytealg.MakeNoZero"], unfollowed := true, recurses := true, named := ["tannoy/octets.digits"], apart := false, laid := [("tannoy/octets.digits", laid_tannoy_octets_digits)], narrowed := true }
def DigestCutsUptoSaid : Prop := digestCutsUptoRow.holds Tryd.pinned (OpenSpec.upto digestCutsSpec)

/-- 'tannoylaw02.DigestKeys', WHERE WHAT IT READS IS OF BULK AT MOST 1048576: true; the input reads as it did. -/
def digestKeysUptoRow : OpenClaim := { program := "ytfdeegafdaobdaadoor", sum := "7d7b56deeb5aa3566ed48dfdb12224a8395fecf50a8f985b328650c8a9964abe", func := "tannoy/tannoylaw02.DigestKeys", spec := "digestKeys", inPlace := ["internal/abi.NoEscape", "internal/bytealg.MakeNoZero"], unfollowed := true, recurses := true, named := ["tannoy/octets.digits"], apart := false, laid := [("tannoy/octets.digits", laid_tannoy_octets_digits)], narrowed := true }
def DigestKeysUptoSaid : Prop := digestKeysUptoRow.holds Tryd.pinned (OpenSpec.upto digestKeysSpec)

/-- 'tannoylaw02.DigestPrefix', WHERE WHAT IT READS IS OF BULK AT MOST 1048576: true; the input reads as it did. -/
def digestPrefixUptoRow : OpenClaim := { program := "ytfdeegafdaobdaadoor", sum := "7d7b56deeb5aa3566ed48dfdb12224a8395fecf50a8f985b328650c8a9964abe", func := "tannoy/tannoylaw02.DigestPrefix", spec := "digestPrefix", inPlace := ["internal/abi.NoEscape", "internal/bytealg.MakeNoZero"], unfollowed := true, recurses := true, named := ["tannoy/octets.digits"], apart := false, laid := [("tannoy/octets.digits", laid_tannoy_octets_digits)], narrowed := true }
def DigestPrefixUptoSaid : Prop := digestPrefixUptoRow.holds Tryd.pinned (OpenSpec.upto digestPrefixSpec)

/-- 'tannoylaw02.DigestKnown', WHERE WHAT IT READS IS OF BULK AT MOST 1048576: true; the input reads as it did. -/
def digestKnownUptoRow : OpenClaim := { program := "ytfdeegafdaobdaadoor", sum := "7d7b56deeb5aa3566ed48dfdb12224a8395fecf50a8f985b328650c8a9964abe", func := "tannoy/tannoylaw02.DigestKnown", spec := "digestKnown", inPlace := ["internal/abi.NoEscape", "internal/bytealg.MakeNoZero"], unfollowed := true, recurses := true, named := ["tannoy/octets.digits"], apart := false, laid := [("tannoy/octets.digits", laid_tannoy_octets_digits)], narrowed := true }
def DigestKnownUptoSaid : Prop := digestKnownUptoRow.holds Tryd.pinned (OpenSpec.upto digestKnownSpec)

end Rows
end Go.Proofs.YtfdeegafdaobdaaDoor
