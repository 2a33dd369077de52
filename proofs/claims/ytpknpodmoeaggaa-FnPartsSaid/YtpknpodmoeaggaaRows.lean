/-
  No cell of these rows narrows 'for every input' (looked for: loops, veiled, ifaces, maps, wideKeys, modest, calm, conditions, laid).
  DERIVED. THE GIVEN ROWS OF THIS SEAT. 6 by the template 'for every input the law returns true; each argument reads behind the call as it read before'; 0 by the template 'total and deterministic' (their statements: YtpknpodmoeaggaaTotals.lean).
  GIVEN WITH THE SEED: the statements are not yours to turn. If you find one false, say at which input.
  Laid BY PROGRAM, IN A SANDBOX (cutbox-rows.mjs): the forced cells as the released guide's own fill.sh prints them over the translation 8f4e5b4cd2cf94b8… (all of the seat's roots in one cut). By AI agents, Wed Nov 11 2026. No macro, syntax, notation, axiom, sorry.
-/
import Derived.Test.YtpknpodmoeaggaaChecked
import GoSem.Claim
import GoSem.ClaimJoined
import GoSem.ClaimMapViews
import Derived.JoinedTies
import Derived.KernelRfl
namespace Go.Proofs.Ytpknpodmoeaggaa
/- THE CELL 'sum', in the pinned program and in every row, IS THE sha256 OF THE DUMP (.gsa) THAT YtpknpodmoeaggaaProg.lean LOADS. Nothing in Lean hashes anything: it is a label: what it is worth is what the hold of that sum in a sandbox is worth. -/
noncomputable def Try.pinned : Pinned := { name := "ytpknpodmoeaggaa", sum := "8f4e5b4cd2cf94b8ab0f0123f8f8b42121ffdc01aa958e62feb5a73f92f5eee5", checked := Try.checked }
namespace Rows
def none {H : Type} : Left H := { results := [], args := [] }

/-- 'laws.FnDgrams': WHATEVER THE INPUT: true; the input reads as it did. -/
def fnDgramsSpec : ChangeSpec := { name := "fnDgrams", fn := fun _ => fun
  | [d] => { results := [.lit (.bool true)], args := [d] }
  | _ => none }
def fnDgramsRow : OpenClaim := { program := "ytpknpodmoeaggaa", sum := "8f4e5b4cd2cf94b8ab0f0123f8f8b42121ffdc01aa958e62feb5a73f92f5eee5", func := "loop.example/g00232/laws.FnDgrams", spec := "fnDgrams", apart := false }
def FnDgramsSaid : Prop := fnDgramsRow.holds Try.pinned (OpenSpec.ofChange fnDgramsSpec)

/-- ITS FALSE NEIGHBOUR: 'it returns false'. Refute it at one input. -/
def fnDgramsWrong : ChangeSpec := { name := "fnDgrams", fn := fun _ => fun
  | [d] => { results := [.lit (.bool false)], args := [d] }
  | _ => none }
def FnDgramsWrongFalsely : Prop := fnDgramsRow.holds Try.pinned (OpenSpec.ofChange fnDgramsWrong)

/-- 'laws.FnParts': WHATEVER THE INPUT: true; the input reads as it did. -/
def fnPartsSpec : ChangeSpec := { name := "fnParts", fn := fun _ => fun
  | [d] => { results := [.lit (.bool true)], args := [d] }
  | _ => none }
def fnPartsRow : OpenClaim := { program := "ytpknpodmoeaggaa", sum := "8f4e5b4cd2cf94b8ab0f0123f8f8b42121ffdc01aa958e62feb5a73f92f5eee5", func := "loop.example/g00232/laws.FnParts", spec := "fnParts", inPlace := ["internal/abi.NoEscape"], apart := false }
def FnPartsSaid : Prop := fnPartsRow.holds Try.pinned (OpenSpec.ofChange fnPartsSpec)

/-- ITS FALSE NEIGHBOUR: 'it returns false'. Refute it at one input. -/
def fnPartsWrong : ChangeSpec := { name := "fnParts", fn := fun _ => fun
  | [d] => { results := [.lit (.bool false)], args := [d] }
  | _ => none }
def FnPartsWrongFalsely : Prop := fnPartsRow.holds Try.pinned (OpenSpec.ofChange fnPartsWrong)

/-- 'laws.FnBits': WHATEVER THE INPUT: true; the input reads as it did. -/
def fnBitsSpec : ChangeSpec := { name := "fnBits", fn := fun _ => fun
  | [d] => { results := [.lit (.bool true)], args := [d] }
  | _ => none }
def fnBitsRow : OpenClaim := { program := "ytpknpodmoeaggaa", sum := "8f4e5b4cd2cf94b8ab0f0123f8f8b42121ffdc01aa958e62feb5a73f92f5eee5", func := "loop.example/g00232/laws.FnBits", spec := "fnBits", inPlace := ["internal/abi.NoEscape"], apart := false }
def FnBitsSaid : Prop := fnBitsRow.holds Try.pinned (OpenSpec.ofChange fnBitsSpec)

/-- ITS FALSE NEIGHBOUR: 'it returns false'. Refute it at one input. -/
def fnBitsWrong : ChangeSpec := { name := "fnBits", fn := fun _ => fun
  | [d] => { results := [.lit (.bool false)], args := [d] }
  | _ => none }
def FnBitsWrongFalsely : Prop := fnBitsRow.holds Try.pinned (OpenSpec.ofChange fnBitsWrong)

/-- 'laws.FnExactSumOnes': WHATEVER THE INPUT: true; the input reads as it did. -/
def fnExactSumOnesSpec : ChangeSpec := { name := "fnExactSumOnes", fn := fun _ => fun
  | [d] => { results := [.lit (.bool true)], args := [d] }
  | _ => none }
def fnExactSumOnesRow : OpenClaim := { program := "ytpknpodmoeaggaa", sum := "8f4e5b4cd2cf94b8ab0f0123f8f8b42121ffdc01aa958e62feb5a73f92f5eee5", func := "loop.example/g00232/laws.FnExactSumOnes", spec := "fnExactSumOnes", apart := false }
def FnExactSumOnesSaid : Prop := fnExactSumOnesRow.holds Try.pinned (OpenSpec.ofChange fnExactSumOnesSpec)

/-- ITS FALSE NEIGHBOUR: 'it returns false'. Refute it at one input. -/
def fnExactSumOnesWrong : ChangeSpec := { name := "fnExactSumOnes", fn := fun _ => fun
  | [d] => { results := [.lit (.bool false)], args := [d] }
  | _ => none }
def FnExactSumOnesWrongFalsely : Prop := fnExactSumOnesRow.holds Try.pinned (OpenSpec.ofChange fnExactSumOnesWrong)

/-- 'laws.FnExactDgramOk': WHATEVER THE INPUT: true; the input reads as it did. -/
def fnExactDgramOkSpec : ChangeSpec := { name := "fnExactDgramOk", fn := fun _ => fun
  | [d] => { results := [.lit (.bool true)], args := [d] }
  | _ => none }
def fnExactDgramOkRow : OpenClaim := { program := "ytpknpodmoeaggaa", sum := "8f4e5b4cd2cf94b8ab0f0123f8f8b42121ffdc01aa958e62feb5a73f92f5eee5", func := "loop.example/g00232/laws.FnExactDgramOk", spec := "fnExactDgramOk", apart := false }
def FnExactDgramOkSaid : Prop := fnExactDgramOkRow.holds Try.pinned (OpenSpec.ofChange fnExactDgramOkSpec)

/-- ITS FALSE NEIGHBOUR: 'it returns false'. Refute it at one input. -/
def fnExactDgramOkWrong : ChangeSpec := { name := "fnExactDgramOk", fn := fun _ => fun
  | [d] => { results := [.lit (.bool false)], args := [d] }
  | _ => none }
def FnExactDgramOkWrongFalsely : Prop := fnExactDgramOkRow.holds Try.pinned (OpenSpec.ofChange fnExactDgramOkWrong)

/-- 'laws.FnExactDgramText': WHATEVER THE INPUT: true; the input reads as it did. -/
def fnExactDgramTextSpec : ChangeSpec := { name := "fnExactDgramText", fn := fun _ => fun
  | [d] => { results := [.lit (.bool true)], args := [d] }
  | _ => none }
def fnExactDgramTextRow : OpenClaim := { program := "ytpknpodmoeaggaa", sum := "8f4e5b4cd2cf94b8ab0f0123f8f8b42121ffdc01aa958e62feb5a73f92f5eee5", func := "loop.example/g00232/laws.FnExactDgramText", spec := "fnExactDgramText", apart := false }
def FnExactDgramTextSaid : Prop := fnExactDgramTextRow.holds Try.pinned (OpenSpec.ofChange fnExactDgramTextSpec)

/-- ITS FALSE NEIGHBOUR: 'it returns false'. Refute it at one input. -/
def fnExactDgramTextWrong : ChangeSpec := { name := "fnExactDgramText", fn := fun _ => fun
  | [d] => { results := [.lit (.bool false)], args := [d] }
  | _ => none }
def FnExactDgramTextWrongFalsely : Prop := fnExactDgramTextRow.holds Try.pinned (OpenSpec.ofChange fnExactDgramTextWrong)

/- THE SECOND FORM. 'bulk': how many values and letters a reading holds, each counted each time it is reached (what is shared counts as often as it is met; a slice's spare places count too). A statement '..UptoSaid' is the law's where the arguments, and the package variables that the reading takes, are together of bulk at most 1048576: NARROWER than '..Said'. Prove '..Said' where nothing that the law and all that it calls make is longer than what came in: it says more and counts as full. Else prove '..UptoSaid'. A law counts once. -/
mutual
def uptoBulk {H : Type} : DataW H → Nat
  | .lit (.string bytes) => bytes.length + 1
  | .lit _ => 1
  | .nil => 1
  | .ptr d => uptoBulk d + 1
  | .slice elems spare => uptoBulkAll elems + uptoBulkAll spare + 1
  | .agg parts => uptoBulkAll parts + 1
  | .iface _ d => uptoBulk d + 1
  | .map entries => uptoBulkEntries entries + 1
  | .held _ => 1
def uptoBulkAll {H : Type} : List (DataW H) → Nat
  | [] => 0
  | d :: r => uptoBulk d + uptoBulkAll r
def uptoBulkEntries {H : Type} : List (Lit × DataW H) → Nat
  | [] => 0
  | x :: r => uptoBulkEntry x + uptoBulkEntries r
def uptoBulkEntry {H : Type} : Lit × DataW H → Nat
  | (.string bytes, d) => bytes.length + uptoBulk d + 1
  | (_, d) => uptoBulk d + 1
 end
def uptoSmall : (H : Type) → List (DataW H) → Bool := fun _ ds => decide (uptoBulkAll ds ≤ 1048576)
def OpenSpec.upto (s : _root_.Go.ChangeSpec) : _root_.Go.OpenSpec := { _root_.Go.OpenSpec.ofChange s with cond := some uptoSmall }

/-- 'laws.FnDgrams', WHERE WHAT IT READS IS OF BULK AT MOST 1048576: true; the input reads as it did. -/
def fnDgramsUptoRow : OpenClaim := { program := "ytpknpodmoeaggaa", sum := "8f4e5b4cd2cf94b8ab0f0123f8f8b42121ffdc01aa958e62feb5a73f92f5eee5", func := "loop.example/g00232/laws.FnDgrams", spec := "fnDgrams", apart := false, narrowed := true }
def FnDgramsUptoSaid : Prop := fnDgramsUptoRow.holds Try.pinned (OpenSpec.upto fnDgramsSpec)

/-- 'laws.FnParts', WHERE WHAT IT READS IS OF BULK AT MOST 1048576: true; the input reads as it did. -/
def fnPartsUptoRow : OpenClaim := { program := "ytpknpodmoeaggaa", sum := "8f4e5b4cd2cf94b8ab0f0123f8f8b42121ffdc01aa958e62feb5a73f92f5eee5", func := "loop.example/g00232/laws.FnParts", spec := "fnParts", inPlace := ["internal/abi.NoEscape"], apart := false, narrowed := true }
def FnPartsUptoSaid : Prop := fnPartsUptoRow.holds Try.pinned (OpenSpec.upto fnPartsSpec)

/-- 'laws.FnBits', WHERE WHAT IT READS IS OF BULK AT MOST 1048576: true; the input reads as it did. -/
def fnBitsUptoRow : OpenClaim := { program := "ytpknpodmoeaggaa", sum := "8f4e5b4cd2cf94b8ab0f0123f8f8b42121ffdc01aa958e62feb5a73f92f5eee5", func := "loop.example/g00232/laws.FnBits", spec := "fnBits", inPlace := ["internal/abi.NoEscape"], apart := false, narrowed := true }
def FnBitsUptoSaid : Prop := fnBitsUptoRow.holds Try.pinned (OpenSpec.upto fnBitsSpec)

/-- 'laws.FnExactSumOnes', WHERE WHAT IT READS IS OF BULK AT MOST 1048576: true; the input reads as it did. -/
def fnExactSumOnesUptoRow : OpenClaim := { program := "ytpknpodmoeaggaa", sum := "8f4e5b4cd2cf94b8ab0f0123f8f8b42121ffdc01aa958e62feb5a73f92f5eee5", func := "loop.example/g00232/laws.FnExactSumOnes", spec := "fnExactSumOnes", apart := false, narrowed := true }
def FnExactSumOnesUptoSaid : Prop := fnExactSumOnesUptoRow.holds Try.pinned (OpenSpec.upto fnExactSumOnesSpec)

/-- 'laws.FnExactDgramOk', WHERE WHAT IT READS IS OF BULK AT MOST 1048576: true; the input reads as it did. -/
def fnExactDgramOkUptoRow : OpenClaim := { program := "ytpknpodmoeaggaa", sum := "8f4e5b4cd2cf94b8ab0f0123f8f8b42121ffdc01aa958e62feb5a73f92f5eee5", func := "loop.example/g00232/laws.FnExactDgramOk", spec := "fnExactDgramOk", apart := false, narrowed := true }
def FnExactDgramOkUptoSaid : Prop := fnExactDgramOkUptoRow.holds Try.pinned (OpenSpec.upto fnExactDgramOkSpec)

/-- 'laws.FnExactDgramText', WHERE WHAT IT READS IS OF BULK AT MOST 1048576: true; the input reads as it did. -/
def fnExactDgramTextUptoRow : OpenClaim := { program := "ytpknpodmoeaggaa", sum := "8f4e5b4cd2cf94b8ab0f0123f8f8b42121ffdc01aa958e62feb5a73f92f5eee5", func := "loop.example/g00232/laws.FnExactDgramText", spec := "fnExactDgramText", apart := false, narrowed := true }
def FnExactDgramTextUptoSaid : Prop := fnExactDgramTextUptoRow.holds Try.pinned (OpenSpec.upto fnExactDgramTextSpec)

end Rows
end Go.Proofs.Ytpknpodmoeaggaa
