/-
  NARROWER THAN 'FOR EVERY INPUT', by the rows' own cells (each row's printed sentence says how): StreamBlocks: laid · StreamApplies: laid · StreamUndoes: laid · StreamCuts: laid · StreamKnown: laid.
  DERIVED. THE GIVEN ROWS OF THIS SEAT. 5 by the template 'for every input the law returns true; each argument reads behind the call as it read before'; 0 by the template 'total and deterministic' (their statements: YtnbcajbpdhnkaaaDoorTotals.lean).
  GIVEN WITH THE SEED: the statements are not yours to turn. If you find one false, say at which input.
  Laid BY PROGRAM, IN A SANDBOX (cutbox-rows.mjs): the forced cells as the released guide's own fill.sh prints them over the translation 23b4bb88fe761ab0… (all of the seat's roots in one cut). By AI agents, Wed Nov 11 2026. No macro, syntax, notation, axiom, sorry.
-/
import Derived.Test.YtnbcajbpdhnkaaaDoorChecked
import GoSem.Claim
import GoSem.ClaimJoined
import GoSem.ClaimMapViews
import Derived.JoinedTies
import Derived.KernelRfl
namespace Go.Proofs.YtnbcajbpdhnkaaaDoor
/- THE CELL 'sum', in the pinned program and in every row, IS THE sha256 OF THE DUMP (.gsa) THAT YtnbcajbpdhnkaaaDoorProg.lean LOADS. Nothing in Lean hashes anything: it is a label: what it is worth is what the hold of that sum in a sandbox is worth. -/
noncomputable def Tryd.pinned : Pinned := { name := "ytnbcajbpdhnkaaadoor", sum := "23b4bb88fe761ab0b09474d26facfe059f92646103c9a9e13defa435680f0e83", checked := Tryd.checked }
namespace Rows
def none {H : Type} : Left H := { results := [], args := [] }

/- WHAT THE LISTED PACKAGE-LEVEL VARIABLES READ AS WHEN THE CALL BEGINS. Each datum BY PROGRAM (the guide's laid-datum.mjs) off the statement by which the dump's own 'gosem.cut.vars' lays the variable. In a bare row this is a premise. The card (YtnbcajbpdhnkaaaDoorCards.lean) ties it to the program's text. -/
def laid_tannoy_octets_digits {H : Type} : DataW H := .agg [.lit (.int .u8 48), .lit (.int .u8 49), .lit (.int .u8 50), .lit (.int .u8 51), .lit (.int .u8 52), .lit (.int .u8 53), .lit (.int .u8 54), .lit (.int .u8 55), .lit (.int .u8 56), .lit (.int .u8 57), .lit (.int .u8 97), .lit (.int .u8 98), .lit (.int .u8 99), .lit (.int .u8 100), .lit (.int .u8 101), .lit (.int .u8 102)]

/-- 'tannoylaw03.StreamBlocks': WHATEVER THE INPUT: true; the input reads as it did. -/
def streamBlocksSpec : ChangeSpec := { name := "streamBlocks", fn := fun _ => fun
  | [d1, d2, d3, d4] => { results := [.lit (.bool true)], args := [d1, d2, d3, d4] }
  | _ => none }
def streamBlocksRow : OpenClaim := { program := "ytnbcajbpdhnkaaadoor", sum := "23b4bb88fe761ab0b09474d26facfe059f92646103c9a9e13defa435680f0e83", func := "tannoy/tannoylaw03.StreamBlocks", spec := "streamBlocks", inPlace := ["internal/abi.NoEscape", "internal/bytealg.MakeNoZero"], unfollowed := true, recurses := true, named := ["tannoy/octets.digits"], apart := false, laid := [("tannoy/octets.digits", laid_tannoy_octets_digits)] }
def StreamBlocksSaid : Prop := streamBlocksRow.holds Tryd.pinned (OpenSpec.ofChange streamBlocksSpec)

/-- ITS FALSE NEIGHBOUR: 'it returns false'. Refute it at one input. -/
def streamBlocksWrong : ChangeSpec := { name := "streamBlocks", fn := fun _ => fun
  | [d1, d2, d3, d4] => { results := [.lit (.bool false)], args := [d1, d2, d3, d4] }
  | _ => none }
def StreamBlocksWrongFalsely : Prop := streamBlocksRow.holds Tryd.pinned (OpenSpec.ofChange streamBlocksWrong)

/-- 'tannoylaw03.StreamApplies': WHATEVER THE INPUT: true; the input reads as it did. -/
def streamAppliesSpec : ChangeSpec := { name := "streamApplies", fn := fun _ => fun
  | [d1, d2, d3, d4, d5, d6] => { results := [.lit (.bool true)], args := [d1, d2, d3, d4, d5, d6] }
  | _ => none }
def streamAppliesRow : OpenClaim := { program := "ytnbcajbpdhnkaaadoor", sum := "23b4bb88fe761ab0b09474d26facfe059f92646103c9a9e13defa435680f0e83", func := "tannoy/tannoylaw03.StreamApplies", spec := "streamApplies", inPlace := ["internal/abi.NoEscape", "internal/bytealg.MakeNoZero"], unfollowed := true, recurses := true, named := ["tannoy/octets.digits"], apart := false, laid := [("tannoy/octets.digits", laid_tannoy_octets_digits)] }
def StreamAppliesSaid : Prop := streamAppliesRow.holds Tryd.pinned (OpenSpec.ofChange streamAppliesSpec)

/-- ITS FALSE NEIGHBOUR: 'it returns false'. Refute it at one input. -/
def streamAppliesWrong : ChangeSpec := { name := "streamApplies", fn := fun _ => fun
  | [d1, d2, d3, d4, d5, d6] => { results := [.lit (.bool false)], args := [d1, d2, d3, d4, d5, d6] }
  | _ => none }
def StreamAppliesWrongFalsely : Prop := streamAppliesRow.holds Tryd.pinned (OpenSpec.ofChange streamAppliesWrong)

/-- 'tannoylaw03.StreamUndoes': WHATEVER THE INPUT: true; the input reads as it did. -/
def streamUndoesSpec : ChangeSpec := { name := "streamUndoes", fn := fun _ => fun
  | [d1, d2, d3, d4] => { results := [.lit (.bool true)], args := [d1, d2, d3, d4] }
  | _ => none }
def streamUndoesRow : OpenClaim := { program := "ytnbcajbpdhnkaaadoor", sum := "23b4bb88fe761ab0b09474d26facfe059f92646103c9a9e13defa435680f0e83", func := "tannoy/tannoylaw03.StreamUndoes", spec := "streamUndoes", inPlace := ["internal/abi.NoEscape", "internal/bytealg.MakeNoZero"], unfollowed := true, recurses := true, named := ["tannoy/octets.digits"], apart := false, laid := [("tannoy/octets.digits", laid_tannoy_octets_digits)] }
def StreamUndoesSaid : Prop := streamUndoesRow.holds Tryd.pinned (OpenSpec.ofChange streamUndoesSpec)

/-- ITS FALSE NEIGHBOUR: 'it returns false'. Refute it at one input. -/
def streamUndoesWrong : ChangeSpec := { name := "streamUndoes", fn := fun _ => fun
  | [d1, d2, d3, d4] => { results := [.lit (.bool false)], args := [d1, d2, d3, d4] }
  | _ => none }
def StreamUndoesWrongFalsely : Prop := streamUndoesRow.holds Tryd.pinned (OpenSpec.ofChange streamUndoesWrong)

/-- 'tannoylaw03.StreamCuts': WHATEVER THE INPUT: true; the input reads as it did. -/
def streamCutsSpec : ChangeSpec := { name := "streamCuts", fn := fun _ => fun
  | [d1, d2, d3, d4, d5] => { results := [.lit (.bool true)], args := [d1, d2, d3, d4, d5] }
  | _ => none }
def streamCutsRow : OpenClaim := { program := "ytnbcajbpdhnkaaadoor", sum := "23b4bb88fe761ab0b09474d26facfe059f92646103c9a9e13defa435680f0e83", func := "tannoy/tannoylaw03.StreamCuts", spec := "streamCuts", inPlace := ["internal/abi.NoEscape", "internal/bytealg.MakeNoZero"], unfollowed := true, recurses := true, named := ["tannoy/octets.digits"], apart := false, laid := [("tannoy/octets.digits", laid_tannoy_octets_digits)] }
def StreamCutsSaid : Prop := streamCutsRow.holds Tryd.pinned (OpenSpec.ofChange streamCutsSpec)

/-- ITS FALSE NEIGHBOUR: 'it returns false'. Refute it at one input. -/
def streamCutsWrong : ChangeSpec := { name := "streamCuts", fn := fun _ => fun
  | [d1, d2, d3, d4, d5] => { results := [.lit (.bool false)], args := [d1, d2, d3, d4, d5] }
  | _ => none }
def StreamCutsWrongFalsely : Prop := streamCutsRow.holds Tryd.pinned (OpenSpec.ofChange streamCutsWrong)

/-- 'tannoylaw03.StreamKnown': WHATEVER THE INPUT: true; the input reads as it did. -/
def streamKnownSpec : ChangeSpec := { name := "streamKnown", fn := fun _ => fun
  | [] => { results := [.lit (.bool true)], args := [] }
  | _ => none }
def streamKnownRow : OpenClaim := { program := "ytnbcajbpdhnkaaadoor", sum := "23b4bb88fe761ab0b09474d26facfe059f92646103c9a9e13defa435680f0e83", func := "tannoy/tannoylaw03.StreamKnown", spec := "streamKnown", inPlace := ["internal/abi.NoEscape", "internal/bytealg.MakeNoZero"], unfollowed := true, recurses := true, named := ["tannoy/octets.digits"], apart := false, laid := [("tannoy/octets.digits", laid_tannoy_octets_digits)] }
def StreamKnownSaid : Prop := streamKnownRow.holds Tryd.pinned (OpenSpec.ofChange streamKnownSpec)

/-- ITS FALSE NEIGHBOUR: 'it returns false'. Refute it at one input. -/
def streamKnownWrong : ChangeSpec := { name := "streamKnown", fn := fun _ => fun
  | [] => { results := [.lit (.bool false)], args := [] }
  | _ => none }
def StreamKnownWrongFalsely : Prop := streamKnownRow.holds Tryd.pinned (OpenSpec.ofChange streamKnownWrong)

/- THE SECOND FORM. 'bulk': how many values and letters a reading holds, each counted each time it is reached (what is shared counts as often as it is met; a slice's spare places count too). A statement '..UptoSaid' is the law's where the arguments, and the package variables that the reading takes, are together of bulk at most 1048576: NARROWER than '..Said'. Prove '..Said' where nothing that the law and all that it calls make is longer than what came in: it says more and counts as full. Else prove '..UptoSaid'. A law counts once. -/
mutual
def uptoBulk {H : Type} : DataW H → Nat
  | .lit (.string bytes) => bytes.length + 1
  | .lit _ => 1
  | .nil => 1
  | .ptr d => uptoBulk d + 1
  | .slice elems spare => uptoBulkAll elems + uptoBulkAll spare + 1
  | .agg parts => uptoBulkAll parts + 1
  | .iface _ d => uptoBulk d + 1
  | .map entries => uptoBulkEntries entries + 1
  | .held _ => 1
def uptoBulkAll {H : Type} : List (DataW H) → Nat
  | [] => 0
  | d :: r => uptoBulk d + uptoBulkAll r
def uptoBulkEntries {H : Type} : List (Lit × DataW H) → Nat
  | [] => 0
  | x :: r => uptoBulkEntry x + uptoBulkEntries r
def uptoBulkEntry {H : Type} : Lit × DataW H → Nat
  | (.string bytes, d) => bytes.length + uptoBulk d + 1
  | (_, d) => uptoBulk d + 1
 end
def uptoSmall : (H : Type) → List (DataW H) → Bool := fun _ ds => decide (uptoBulkAll ds ≤ 1048576)
def OpenSpec.upto (s : _root_.Go.ChangeSpec) : _root_.Go.OpenSpec := { _root_.Go.OpenSpec.ofChange s with cond := some uptoSmall }

/-- 'tannoylaw03.StreamBlocks', WHERE WHAT IT READS IS OF BULK AT MOST 1048576: true; the input reads as it did. -/
def streamBlocksUptoRow : OpenClaim := { program := "ytnbcajbpdhnkaaadoor", sum := "23b4bb88fe761ab0b09474d26facfe059f92646103c9a9e13defa435680f0e83", func := "tannoy/tannoylaw03.StreamBlocks", spec := "streamBlocks", inPlace := ["internal/abi.NoEscape", "internal/bytealg.MakeNoZero"], unfollowed := true, recurses := true, named := ["tannoy/octets.digits"], apart := false, laid := [("tannoy/octets.digits", laid_tannoy_octets_digits)], narrowed := true }
def StreamBlocksUptoSaid : Prop := streamBlocksUptoRow.holds Tryd.pinned (OpenSpec.upto streamBlocksSpec)

/-- 'tannoylaw03.StreamApplies', WHERE WHAT IT READS IS OF BULK AT MOST 1048576: true; the input reads as it did. -/
def streamAppliesUptoRow : OpenClaim := { program := "ytnbcajbpdhnkaaadoor", sum := "23b4bb88fe761ab0b09474d26facfe059f92646103c9a9e13defa435680f0e83", func := "tannoy/tannoylaw03.StreamApplies", spec := "streamApplies", inPlace := ["internal/abi.NoEscape", "internal/bytealg.MakeNoZero"], unfollowed := true, recurses := true, named := ["tannoy/octets.digits"], apart := false, laid := [("tannoy/octets.digits", laid_tannoy_octets_digits)], narrowed := true }
def StreamAppliesUptoSaid : Prop := streamAppliesUptoRow.holds Tryd.pinned (OpenSpec.upto streamAppliesSpec)

/-- 'tannoylaw03.StreamUndoes', WHERE WHAT IT READS IS OF BULK AT MOST 1048576: true; the input reads as it did. -/
def streamUndoesUptoRow : OpenClaim := { program := "ytnbcajbpdhnkaaadoor", sum := "23b4bb88fe761ab0b09474d26facfe059f92646103c9a9e13defa435680f0e83", func := "tannoy/tannoylaw03.StreamUndoes", spec := "streamUndoes", inPlace := ["internal/abi.NoEscape", "internal/bytealg.MakeNoZero"], unfollowed := true, recurses := true, named := ["tannoy/octets.digits"], apart := false, laid := [("tannoy/octets.digits", laid_tannoy_octets_digits)], narrowed := true }
def StreamUndoesUptoSaid : Prop := streamUndoesUptoRow.holds Tryd.pinned (OpenSpec.upto streamUndoesSpec)

/-- 'tannoylaw03.StreamCuts', WHERE WHAT IT READS IS OF BULK AT MOST 1048576: true; the input reads as it did. -/
def streamCutsUptoRow : OpenClaim := { program := "ytnbcajbpdhnkaaadoor", sum := "23b4bb88fe761ab0b09474d26facfe059f92646103c9a9e13defa435680f0e83", func := "tannoy/tannoylaw03.StreamCuts", spec := "streamCuts", inPlace := ["internal/abi.NoEscape", "internal/bytealg.MakeNoZero"], unfollowed := true, recurses := true, named := ["tannoy/octets.digits"], apart := false, laid := [("tannoy/octets.digits", laid_tannoy_octets_digits)], narrowed := true }
def StreamCutsUptoSaid : Prop := streamCutsUptoRow.holds Tryd.pinned (OpenSpec.upto streamCutsSpec)

/-- 'tannoylaw03.StreamKnown', WHERE WHAT IT READS IS OF BULK AT MOST 1048576: true; the input reads as it did. -/
def streamKnownUptoRow : OpenClaim := { program := "ytnbcajbpdhnkaaadoor", sum := "23b4bb88fe761ab0b09474d26facfe059f92646103c9a9e13defa435680f0e83", func := "tannoy/tannoylaw03.StreamKnown", spec := "streamKnown", inPlace := ["internal/abi.NoEscape", "internal/bytealg.MakeNoZero"], unfollowed := true, recurses := true, named := ["tannoy/octets.digits"], apart := false, laid := [("tannoy/octets.digits", laid_tannoy_octets_digits)], narrowed := true }
def StreamKnownUptoSaid : Prop := streamKnownUptoRow.holds Tryd.pinned (OpenSpec.upto streamKnownSpec)

end Rows
end Go.Proofs.YtnbcajbpdhnkaaaDoor
