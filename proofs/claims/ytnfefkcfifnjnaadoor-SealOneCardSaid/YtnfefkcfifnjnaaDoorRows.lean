/-
  NARROWER THAN 'FOR EVERY INPUT', by the rows' own cells (each row's printed sentence says how): SealTags: laid · SealBoxes: laid · SealOpens: laid · SealMeans: laid · SealSums: laid · SealOne: laid · SealKnown: laid · StreamBlocks: laid · StreamApplies: laid.
  DERIVED. THE GIVEN ROWS OF THIS SEAT. 9 by the template 'for every input the law returns true; each argument reads behind the call as it read before'; 0 by the template 'total and deterministic' (their statements: YtnfefkcfifnjnaaDoorTotals.lean).
  GIVEN WITH THE SEED: the statements are not yours to turn. If you find one false, say at which input.
  Laid BY PROGRAM, IN A SANDBOX (cutbox-rows.mjs): the forced cells as the released guide's own fill.sh prints them over the translation 8398ceeaad05531a… (all of the seat's roots in one cut). By AI agents, Wed Nov 11 2026. No macro, syntax, notation, axiom, sorry.
-/
import Derived.Test.YtnfefkcfifnjnaaDoorChecked
import GoSem.Claim
import GoSem.ClaimJoined
import GoSem.ClaimMapViews
import Derived.JoinedTies
import Derived.KernelRfl
namespace Go.Proofs.YtnfefkcfifnjnaaDoor
/- THE CELL 'sum', in the pinned program and in every row, IS THE sha256 OF THE DUMP (.gsa) THAT YtnfefkcfifnjnaaDoorProg.lean LOADS. Nothing in Lean hashes anything: it is a label: what it is worth is what the hold of that sum in a sandbox is worth. -/
noncomputable def Tryd.pinned : Pinned := { name := "ytnfefkcfifnjnaadoor", sum := "8398ceeaad05531a671a0d9ef4738e7df8cda0e4e49921dbea637dc838906395", checked := Tryd.checked }
namespace Rows
def none {H : Type} : Left H := { results := [], args := [] }

/- WHAT THE LISTED PACKAGE-LEVEL VARIABLES READ AS WHEN THE CALL BEGINS. Each datum BY PROGRAM (the guide's laid-datum.mjs) off the statement by which the dump's own 'gosem.cut.vars' lays the variable. In a bare row this is a premise. The card (YtnfefkcfifnjnaaDoorCards.lean) ties it to the program's text. -/
def laid_tannoy_octets_digits {H : Type} : DataW H := .agg [.lit (.int .u8 48), .lit (.int .u8 49), .lit (.int .u8 50), .lit (.int .u8 51), .lit (.int .u8 52), .lit (.int .u8 53), .lit (.int .u8 54), .lit (.int .u8 55), .lit (.int .u8 56), .lit (.int .u8 57), .lit (.int .u8 97), .lit (.int .u8 98), .lit (.int .u8 99), .lit (.int .u8 100), .lit (.int .u8 101), .lit (.int .u8 102)]

/-- 'tannoylaw04.SealTags': WHATEVER THE INPUT: true; the input reads as it did. -/
def sealTagsSpec : ChangeSpec := { name := "sealTags", fn := fun _ => fun
  | [d1, d2, d3, d4] => { results := [.lit (.bool true)], args := [d1, d2, d3, d4] }
  | _ => none }
def sealTagsRow : OpenClaim := { program := "ytnfefkcfifnjnaadoor", sum := "8398ceeaad05531a671a0d9ef4738e7df8cda0e4e49921dbea637dc838906395", func := "tannoy/tannoylaw04.SealTags", spec := "sealTags", inPlace := ["internal/abi.NoEscape", "internal/bytealg.MakeNoZero"], unfollowed := true, recurses := true, named := ["tannoy/octets.digits"], apart := false, laid := [("tannoy/octets.digits", laid_tannoy_octets_digits)] }
def SealTagsSaid : Prop := sealTagsRow.holds Tryd.pinned (OpenSpec.ofChange sealTagsSpec)

/-- ITS FALSE NEIGHBOUR: 'it returns false'. Refute it at one input. -/
def sealTagsWrong : ChangeSpec := { name := "sealTags", fn := fun _ => fun
  | [d1, d2, d3, d4] => { results := [.lit (.bool false)], args := [d1, d2, d3, d4] }
  | _ => none }
def SealTagsWrongFalsely : Prop := sealTagsRow.holds Tryd.pinned (OpenSpec.ofChange sealTagsWrong)

/-- 'tannoylaw04.SealBoxes': WHATEVER THE INPUT: true; the input reads as it did. -/
def sealBoxesSpec : ChangeSpec := { name := "sealBoxes", fn := fun _ => fun
  | [d1, d2, d3, d4, d5, d6, d7] => { results := [.lit (.bool true)], args := [d1, d2, d3, d4, d5, d6, d7] }
  | _ => none }
def sealBoxesRow : OpenClaim := { program := "ytnfefkcfifnjnaadoor", sum := "8398ceeaad05531a671a0d9ef4738e7df8cda0e4e49921dbea637dc838906395", func := "tannoy/tannoylaw04.SealBoxes", spec := "sealBoxes", inPlace := ["internal/abi.NoEscape", "internal/bytealg.MakeNoZero"], unfollowed := true, recurses := true, named := ["tannoy/octets.digits"], apart := false, laid := [("tannoy/octets.digits", laid_tannoy_octets_digits)] }
def SealBoxesSaid : Prop := sealBoxesRow.holds Tryd.pinned (OpenSpec.ofChange sealBoxesSpec)

/-- ITS FALSE NEIGHBOUR: 'it returns false'. Refute it at one input. -/
def sealBoxesWrong : ChangeSpec := { name := "sealBoxes", fn := fun _ => fun
  | [d1, d2, d3, d4, d5, d6, d7] => { results := [.lit (.bool false)], args := [d1, d2, d3, d4, d5, d6, d7] }
  | _ => none }
def SealBoxesWrongFalsely : Prop := sealBoxesRow.holds Tryd.pinned (OpenSpec.ofChange sealBoxesWrong)

/-- 'tannoylaw04.SealOpens': WHATEVER THE INPUT: true; the input reads as it did. -/
def sealOpensSpec : ChangeSpec := { name := "sealOpens", fn := fun _ => fun
  | [d1, d2, d3, d4, d5, d6] => { results := [.lit (.bool true)], args := [d1, d2, d3, d4, d5, d6] }
  | _ => none }
def sealOpensRow : OpenClaim := { program := "ytnfefkcfifnjnaadoor", sum := "8398ceeaad05531a671a0d9ef4738e7df8cda0e4e49921dbea637dc838906395", func := "tannoy/tannoylaw04.SealOpens", spec := "sealOpens", inPlace := ["internal/abi.NoEscape", "internal/bytealg.MakeNoZero"], unfollowed := true, recurses := true, named := ["tannoy/octets.digits"], apart := false, laid := [("tannoy/octets.digits", laid_tannoy_octets_digits)] }
def SealOpensSaid : Prop := sealOpensRow.holds Tryd.pinned (OpenSpec.ofChange sealOpensSpec)

/-- ITS FALSE NEIGHBOUR: 'it returns false'. Refute it at one input. -/
def sealOpensWrong : ChangeSpec := { name := "sealOpens", fn := fun _ => fun
  | [d1, d2, d3, d4, d5, d6] => { results := [.lit (.bool false)], args := [d1, d2, d3, d4, d5, d6] }
  | _ => none }
def SealOpensWrongFalsely : Prop := sealOpensRow.holds Tryd.pinned (OpenSpec.ofChange sealOpensWrong)

/-- 'tannoylaw04.SealMeans': WHATEVER THE INPUT: true; the input reads as it did. -/
def sealMeansSpec : ChangeSpec := { name := "sealMeans", fn := fun _ => fun
  | [d1, d2, d3, d4] => { results := [.lit (.bool true)], args := [d1, d2, d3, d4] }
  | _ => none }
def sealMeansRow : OpenClaim := { program := "ytnfefkcfifnjnaadoor", sum := "8398ceeaad05531a671a0d9ef4738e7df8cda0e4e49921dbea637dc838906395", func := "tannoy/tannoylaw04.SealMeans", spec := "sealMeans", inPlace := ["internal/abi.NoEscape", "internal/bytealg.MakeNoZero"], unfollowed := true, recurses := true, named := ["tannoy/octets.digits"], apart := false, laid := [("tannoy/octets.digits", laid_tannoy_octets_digits)] }
def SealMeansSaid : Prop := sealMeansRow.holds Tryd.pinned (OpenSpec.ofChange sealMeansSpec)

/-- ITS FALSE NEIGHBOUR: 'it returns false'. Refute it at one input. -/
def sealMeansWrong : ChangeSpec := { name := "sealMeans", fn := fun _ => fun
  | [d1, d2, d3, d4] => { results := [.lit (.bool false)], args := [d1, d2, d3, d4] }
  | _ => none }
def SealMeansWrongFalsely : Prop := sealMeansRow.holds Tryd.pinned (OpenSpec.ofChange sealMeansWrong)

/-- 'tannoylaw04.SealSums': WHATEVER THE INPUT: true; the input reads as it did. -/
def sealSumsSpec : ChangeSpec := { name := "sealSums", fn := fun _ => fun
  | [d1, d2] => { results := [.lit (.bool true)], args := [d1, d2] }
  | _ => none }
def sealSumsRow : OpenClaim := { program := "ytnfefkcfifnjnaadoor", sum := "8398ceeaad05531a671a0d9ef4738e7df8cda0e4e49921dbea637dc838906395", func := "tannoy/tannoylaw04.SealSums", spec := "sealSums", inPlace := ["internal/abi.NoEscape", "internal/bytealg.MakeNoZero"], unfollowed := true, recurses := true, named := ["tannoy/octets.digits"], apart := false, laid := [("tannoy/octets.digits", laid_tannoy_octets_digits)] }
def SealSumsSaid : Prop := sealSumsRow.holds Tryd.pinned (OpenSpec.ofChange sealSumsSpec)

/-- ITS FALSE NEIGHBOUR: 'it returns false'. Refute it at one input. -/
def sealSumsWrong : ChangeSpec := { name := "sealSums", fn := fun _ => fun
  | [d1, d2] => { results := [.lit (.bool false)], args := [d1, d2] }
  | _ => none }
def SealSumsWrongFalsely : Prop := sealSumsRow.holds Tryd.pinned (OpenSpec.ofChange sealSumsWrong)

/-- 'tannoylaw04.SealOne': WHATEVER THE INPUT: true; the input reads as it did. -/
def sealOneSpec : ChangeSpec := { name := "sealOne", fn := fun _ => fun
  | [d] => { results := [.lit (.bool true)], args := [d] }
  | _ => none }
def sealOneRow : OpenClaim := { program := "ytnfefkcfifnjnaadoor", sum := "8398ceeaad05531a671a0d9ef4738e7df8cda0e4e49921dbea637dc838906395", func := "tannoy/tannoylaw04.SealOne", spec := "sealOne", inPlace := ["internal/abi.NoEscape", "internal/bytealg.MakeNoZero"], unfollowed := true, recurses := true, named := ["tannoy/octets.digits"], apart := false, laid := [("tannoy/octets.digits", laid_tannoy_octets_digits)] }
def SealOneSaid : Prop := sealOneRow.holds Tryd.pinned (OpenSpec.ofChange sealOneSpec)

/-- ITS FALSE NEIGHBOUR: 'it returns false'. Refute it at one input. -/
def sealOneWrong : ChangeSpec := { name := "sealOne", fn := fun _ => fun
  | [d] => { results := [.lit (.bool false)], args := [d] }
  | _ => none }
def SealOneWrongFalsely : Prop := sealOneRow.holds Tryd.pinned (OpenSpec.ofChange sealOneWrong)

/-- 'tannoylaw04.SealKnown': WHATEVER THE INPUT: true; the input reads as it did. -/
def sealKnownSpec : ChangeSpec := { name := "sealKnown", fn := fun _ => fun
  | [] => { results := [.lit (.bool true)], args := [] }
  | _ => none }
def sealKnownRow : OpenClaim := { program := "ytnfefkcfifnjnaadoor", sum := "8398ceeaad05531a671a0d9ef4738e7df8cda0e4e49921dbea637dc838906395", func := "tannoy/tannoylaw04.SealKnown", spec := "sealKnown", inPlace := ["internal/abi.NoEscape", "internal/bytealg.MakeNoZero"], unfollowed := true, recurses := true, named := ["tannoy/octets.digits"], apart := false, laid := [("tannoy/octets.digits", laid_tannoy_octets_digits)] }
def SealKnownSaid : Prop := sealKnownRow.holds Tryd.pinned (OpenSpec.ofChange sealKnownSpec)

/-- ITS FALSE NEIGHBOUR: 'it returns false'. Refute it at one input. -/
def sealKnownWrong : ChangeSpec := { name := "sealKnown", fn := fun _ => fun
  | [] => { results := [.lit (.bool false)], args := [] }
  | _ => none }
def SealKnownWrongFalsely : Prop := sealKnownRow.holds Tryd.pinned (OpenSpec.ofChange sealKnownWrong)

/-- 'tannoylaw03.StreamBlocks': WHATEVER THE INPUT: true; the input reads as it did. -/
def streamBlocksSpec : ChangeSpec := { name := "streamBlocks", fn := fun _ => fun
  | [d1, d2, d3, d4] => { results := [.lit (.bool true)], args := [d1, d2, d3, d4] }
  | _ => none }
def streamBlocksRow : OpenClaim := { program := "ytnfefkcfifnjnaadoor", sum := "8398ceeaad05531a671a0d9ef4738e7df8cda0e4e49921dbea637dc838906395", func := "tannoy/tannoylaw03.StreamBlocks", spec := "streamBlocks", inPlace := ["internal/abi.NoEscape", "internal/bytealg.MakeNoZero"], unfollowed := true, recurses := true, named := ["tannoy/octets.digits"], apart := false, laid := [("tannoy/octets.digits", laid_tannoy_octets_digits)] }
def StreamBlocksSaid : Prop := streamBlocksRow.holds Tryd.pinned (OpenSpec.ofChange streamBlocksSpec)

/-- ITS FALSE NEIGHBOUR: 'it returns false'. Refute it at one input. -/
def streamBlocksWrong : ChangeSpec := { name := "streamBlocks", fn := fun _ => fun
  | [d1, d2, d3, d4] => { results := [.lit (.bool false)], args := [d1, d2, d3, d4] }
  | _ => none }
def StreamBlocksWrongFalsely : Prop := streamBlocksRow.holds Tryd.pinned (OpenSpec.ofChange streamBlocksWrong)

/-- 'tannoylaw03.StreamApplies': WHATEVER THE INPUT: true; the input reads as it did. -/
def streamAppliesSpec : ChangeSpec := { name := "streamApplies", fn := fun _ => fun
  | [d1, d2, d3, d4, d5, d6] => { results := [.lit (.bool true)], args := [d1, d2, d3, d4, d5, d6] }
  | _ => none }
def streamAppliesRow : OpenClaim := { program := "ytnfefkcfifnjnaadoor", sum := "8398ceeaad05531a671a0d9ef4738e7df8cda0e4e49921dbea637dc838906395", func := "tannoy/tannoylaw03.StreamApplies", spec := "streamApplies", inPlace := ["internal/abi.NoEscape", "internal/bytealg.MakeNoZero"], unfollowed := true, recurses := true, named := ["tannoy/octets.digits"], apart := false, laid := [("tannoy/octets.digits", laid_tannoy_octets_digits)] }
def StreamAppliesSaid : Prop := streamAppliesRow.holds Tryd.pinned (OpenSpec.ofChange streamAppliesSpec)

/-- ITS FALSE NEIGHBOUR: 'it returns false'. Refute it at one input. -/
def streamAppliesWrong : ChangeSpec := { name := "streamApplies", fn := fun _ => fun
  | [d1, d2, d3, d4, d5, d6] => { results := [.lit (.bool false)], args := [d1, d2, d3, d4, d5, d6] }
  | _ => none }
def StreamAppliesWrongFalsely : Prop := streamAppliesRow.holds Tryd.pinned (OpenSpec.ofChange streamAppliesWrong)

/- THE SECOND FORM. 'bulk': how many values and letters a reading holds, each counted each time it is reached (what is shared counts as often as it is met; a slice's spare places count too). A statement '..UptoSaid' is the law's where the arguments, and the package variables that the reading takes, are together of bulk at most 1048576: NARROWER than '..Said'. Prove '..Said' where nothing that the law and all that it calls make is longer than what came in: it says more and counts as full. Else prove '..UptoSaid'. A law counts once. -/
mutual
def uptoBulk {H : Type} : DataW H → Nat
  | .lit (.string bytes) => bytes.length + 1
  | .lit _ => 1
  | .nil => 1
  | .ptr d => uptoBulk d + 1
  | .slice elems spare => uptoBulkAll elems + uptoBulkAll spare + 1
  | .agg parts => uptoBulkAll parts + 1
  | .iface _ d => uptoBulk d + 1
  | .map entries => uptoBulkEntries entries + 1
  | .held _ => 1
def uptoBulkAll {H : Type} : List (DataW H) → Nat
  | [] => 0
  | d :: r => uptoBulk d + uptoBulkAll r
def uptoBulkEntries {H : Type} : List (Lit × DataW H) → Nat
  | [] => 0
  | x :: r => uptoBulkEntry x + uptoBulkEntries r
def uptoBulkEntry {H : Type} : Lit × DataW H → Nat
  | (.string bytes, d) => bytes.length + uptoBulk d + 1
  | (_, d) => uptoBulk d + 1
 end
def uptoSmall : (H : Type) → List (DataW H) → Bool := fun _ ds => decide (uptoBulkAll ds ≤ 1048576)
def OpenSpec.upto (s : _root_.Go.ChangeSpec) : _root_.Go.OpenSpec := { _root_.Go.OpenSpec.ofChange s with cond := some uptoSmall }

/-- 'tannoylaw04.SealTags', WHERE WHAT IT READS IS OF BULK AT MOST 1048576: true; the input reads as it did. -/
def sealTagsUptoRow : OpenClaim := { program := "ytnfefkcfifnjnaadoor", sum := "8398ceeaad05531a671a0d9ef4738e7df8cda0e4e49921dbea637dc838906395", func := "tannoy/tannoylaw04.SealTags", spec := "sealTags", inPlace := ["internal/abi.NoEscape", "internal/bytealg.MakeNoZero"], unfollowed := true, recurses := true, named := ["tannoy/octets.digits"], apart := false, laid := [("tannoy/octets.digits", laid_tannoy_octets_digits)], narrowed := true }
def SealTagsUptoSaid : Prop := sealTagsUptoRow.holds Tryd.pinned (OpenSpec.upto sealTagsSpec)

/-- 'tannoylaw04.SealBoxes', WHERE WHAT IT READS IS OF BULK AT MOST 1048576: true; the input reads as it did. -/
def sealBoxesUptoRow : OpenClaim := { program := "ytnfefkcfifnjnaadoor", sum := "8398ceeaad05531a671a0d9ef4738e7df8cda0e4e49921dbea637dc838906395", func := "tannoy/tannoylaw04.SealBoxes", spec := "sealBoxes", inPlace := ["internal/abi.NoEscape", "internal/bytealg.MakeNoZero"], unfollowed := true, recurses := true, named := ["tannoy/octets.digits"], apart := false, laid := [("tannoy/octets.digits", laid_tannoy_octets_digits)], narrowed := true }
def SealBoxesUptoSaid : Prop := sealBoxesUptoRow.holds Tryd.pinned (OpenSpec.upto sealBoxesSpec)

/-- 'tannoylaw04.SealOpens', WHERE WHAT IT READS IS OF BULK AT MOST 1048576: true; the input reads as it did. -/
def sealOpensUptoRow : OpenClaim := { program := "ytnfefkcfifnjnaadoor", sum := "8398ceeaad05531a671a0d9ef4738e7df8cda0e4e49921dbea637dc838906395", func := "tannoy/tannoylaw04.SealOpens", spec := "sealOpens", inPlace := ["internal/abi.NoEscape", "internal/bytealg.MakeNoZero"], unfollowed := true, recurses := true, named := ["tannoy/octets.digits"], apart := false, laid := [("tannoy/octets.digits", laid_tannoy_octets_digits)], narrowed := true }
def SealOpensUptoSaid : Prop := sealOpensUptoRow.holds Tryd.pinned (OpenSpec.upto sealOpensSpec)

/-- 'tannoylaw04.SealMeans', WHERE WHAT IT READS IS OF BULK AT MOST 1048576: true; the input reads as it did. -/
def sealMeansUptoRow : OpenClaim := { program := "ytnfefkcfifnjnaadoor", sum := "8398ceeaad05531a671a0d9ef4738e7df8cda0e4e49921dbea637dc838906395", func := "tannoy/tannoylaw04.SealMeans", spec := "sealMeans", inPlace := ["internal/abi.NoEscape", "internal/bytealg.MakeNoZero"], unfollowed := true, recurses := true, named := ["tannoy/octets.digits"], apart := false, laid := [("tannoy/octets.digits", laid_tannoy_octets_digits)], narrowed := true }
def SealMeansUptoSaid : Prop := sealMeansUptoRow.holds Tryd.pinned (OpenSpec.upto sealMeansSpec)

/-- 'tannoylaw04.SealSums', WHERE WHAT IT READS IS OF BULK AT MOST 1048576: true; the input reads as it did. -/
def sealSumsUptoRow : OpenClaim := { program := "ytnfefkcfifnjnaadoor", sum := "8398ceeaad05531a671a0d9ef4738e7df8cda0e4e49921dbea637dc838906395", func := "tannoy/tannoylaw04.SealSums", spec := "sealSums", inPlace := ["internal/abi.NoEscape", "internal/bytealg.MakeNoZero"], unfollowed := true, recurses := true, named := ["tannoy/octets.digits"], apart := false, laid := [("tannoy/octets.digits", laid_tannoy_octets_digits)], narrowed := true }
def SealSumsUptoSaid : Prop := sealSumsUptoRow.holds Tryd.pinned (OpenSpec.upto sealSumsSpec)

/-- 'tannoylaw04.SealOne', WHERE WHAT IT READS IS OF BULK AT MOST 1048576: true; the input reads as it did. -/
def sealOneUptoRow : OpenClaim := { program := "ytnfefkcfifnjnaadoor", sum := "8398ceeaad05531a671a0d9ef4738e7df8cda0e4e49921dbea637dc838906395", func := "tannoy/tannoylaw04.SealOne", spec := "sealOne", inPlace := ["internal/abi.NoEscape", "internal/bytealg.MakeNoZero"], unfollowed := true, recurses := true, named := ["tannoy/octets.digits"], apart := false, laid := [("tannoy/octets.digits", laid_tannoy_octets_digits)], narrowed := true }
def SealOneUptoSaid : Prop := sealOneUptoRow.holds Tryd.pinned (OpenSpec.upto sealOneSpec)

/-- 'tannoylaw04.SealKnown', WHERE WHAT IT READS IS OF BULK AT MOST 1048576: true; the input reads as it did. -/
def sealKnownUptoRow : OpenClaim := { program := "ytnfefkcfifnjnaadoor", sum := "8398ceeaad05531a671a0d9ef4738e7df8cda0e4e49921dbea637dc838906395", func := "tannoy/tannoylaw04.SealKnown", spec := "sealKnown", inPlace := ["internal/abi.NoEscape", "internal/bytealg.MakeNoZero"], unfollowed := true, recurses := true, named := ["tannoy/octets.digits"], apart := false, laid := [("tannoy/octets.digits", laid_tannoy_octets_digits)], narrowed := true }
def SealKnownUptoSaid : Prop := sealKnownUptoRow.holds Tryd.pinned (OpenSpec.upto sealKnownSpec)

/-- 'tannoylaw03.StreamBlocks', WHERE WHAT IT READS IS OF BULK AT MOST 1048576: true; the input reads as it did. -/
def streamBlocksUptoRow : OpenClaim := { program := "ytnfefkcfifnjnaadoor", sum := "8398ceeaad05531a671a0d9ef4738e7df8cda0e4e49921dbea637dc838906395", func := "tannoy/tannoylaw03.StreamBlocks", spec := "streamBlocks", inPlace := ["internal/abi.NoEscape", "internal/bytealg.MakeNoZero"], unfollowed := true, recurses := true, named := ["tannoy/octets.digits"], apart := false, laid := [("tannoy/octets.digits", laid_tannoy_octets_digits)], narrowed := true }
def StreamBlocksUptoSaid : Prop := streamBlocksUptoRow.holds Tryd.pinned (OpenSpec.upto streamBlocksSpec)

/-- 'tannoylaw03.StreamApplies', WHERE WHAT IT READS IS OF BULK AT MOST 1048576: true; the input reads as it did. -/
def streamAppliesUptoRow : OpenClaim := { program := "ytnfefkcfifnjnaadoor", sum := "8398ceeaad05531a671a0d9ef4738e7df8cda0e4e49921dbea637dc838906395", func := "tannoy/tannoylaw03.StreamApplies", spec := "streamApplies", inPlace := ["internal/abi.NoEscape", "internal/bytealg.MakeNoZero"], unfollowed := true, recurses := true, named := ["tannoy/octets.digits"], apart := false, laid := [("tannoy/octets.digits", laid_tannoy_octets_digits)], narrowed := true }
def StreamAppliesUptoSaid : Prop := streamAppliesUptoRow.holds Tryd.pinned (OpenSpec.upto streamAppliesSpec)

end Rows
end Go.Proofs.YtnfefkcfifnjnaaDoor
