/-
  No cell of these rows narrows 'for every input' (looked for: loops, veiled, ifaces, maps, wideKeys, modest, calm, conditions, laid).
  DERIVED. THE GIVEN ROWS OF THIS SEAT. 6 by the template 'for every input the law returns true; each argument reads behind the call as it read before'; 0 by the template 'total and deterministic' (their statements: YtjcphahbplmmdaaTotals.lean).
  GIVEN WITH THE SEED: the statements are not yours to turn. If you find one false, say at which input.
  Laid BY PROGRAM, IN A SANDBOX (cutbox-rows.mjs): the forced cells as the released guide's own fill.sh prints them over the translation 76a6a38acdfa6b45… (all of the seat's roots in one cut). By AI agents, Wed Nov 11 2026. No macro, syntax, notation, axiom, sorry.
-/
import Derived.Test.YtjcphahbplmmdaaChecked
import GoSem.Claim
import GoSem.ClaimJoined
import GoSem.ClaimMapViews
import Derived.JoinedTies
import Derived.KernelRfl
namespace Go.Proofs.Ytjcphahbplmmdaa
/- THE CELL 'sum', in the pinned program and in every row, IS THE sha256 OF THE DUMP (.gsa) THAT YtjcphahbplmmdaaProg.lean LOADS. Nothing in Lean hashes anything: it is a label: what it is worth is what the hold of that sum in a sandbox is worth. -/
noncomputable def Try.pinned : Pinned := { name := "ytjcphahbplmmdaa", sum := "76a6a38acdfa6b45d683577a5a040242a0cb1ee0c96e8689eaaff6d24cd70c0b", checked := Try.checked }
namespace Rows
def none {H : Type} : Left H := { results := [], args := [] }

/-- 'laws.FnRings': WHATEVER THE INPUT: true; the input reads as it did. -/
def fnRingsSpec : ChangeSpec := { name := "fnRings", fn := fun _ => fun
  | [d] => { results := [.lit (.bool true)], args := [d] }
  | _ => none }
def fnRingsRow : OpenClaim := { program := "ytjcphahbplmmdaa", sum := "76a6a38acdfa6b45d683577a5a040242a0cb1ee0c96e8689eaaff6d24cd70c0b", func := "loop.example/g00232/laws.FnRings", spec := "fnRings", apart := false }
def FnRingsSaid : Prop := fnRingsRow.holds Try.pinned (OpenSpec.ofChange fnRingsSpec)

/-- ITS FALSE NEIGHBOUR: 'it returns false'. Refute it at one input. -/
def fnRingsWrong : ChangeSpec := { name := "fnRings", fn := fun _ => fun
  | [d] => { results := [.lit (.bool false)], args := [d] }
  | _ => none }
def FnRingsWrongFalsely : Prop := fnRingsRow.holds Try.pinned (OpenSpec.ofChange fnRingsWrong)

/-- 'laws.FnRingsTold': WHATEVER THE INPUT: true; the input reads as it did. -/
def fnRingsToldSpec : ChangeSpec := { name := "fnRingsTold", fn := fun _ => fun
  | [d] => { results := [.lit (.bool true)], args := [d] }
  | _ => none }
def fnRingsToldRow : OpenClaim := { program := "ytjcphahbplmmdaa", sum := "76a6a38acdfa6b45d683577a5a040242a0cb1ee0c96e8689eaaff6d24cd70c0b", func := "loop.example/g00232/laws.FnRingsTold", spec := "fnRingsTold", apart := false }
def FnRingsToldSaid : Prop := fnRingsToldRow.holds Try.pinned (OpenSpec.ofChange fnRingsToldSpec)

/-- ITS FALSE NEIGHBOUR: 'it returns false'. Refute it at one input. -/
def fnRingsToldWrong : ChangeSpec := { name := "fnRingsTold", fn := fun _ => fun
  | [d] => { results := [.lit (.bool false)], args := [d] }
  | _ => none }
def FnRingsToldWrongFalsely : Prop := fnRingsToldRow.holds Try.pinned (OpenSpec.ofChange fnRingsToldWrong)

/-- 'laws.FnExactRingNew': WHATEVER THE INPUT: true; the input reads as it did. -/
def fnExactRingNewSpec : ChangeSpec := { name := "fnExactRingNew", fn := fun _ => fun
  | [d] => { results := [.lit (.bool true)], args := [d] }
  | _ => none }
def fnExactRingNewRow : OpenClaim := { program := "ytjcphahbplmmdaa", sum := "76a6a38acdfa6b45d683577a5a040242a0cb1ee0c96e8689eaaff6d24cd70c0b", func := "loop.example/g00232/laws.FnExactRingNew", spec := "fnExactRingNew", apart := false }
def FnExactRingNewSaid : Prop := fnExactRingNewRow.holds Try.pinned (OpenSpec.ofChange fnExactRingNewSpec)

/-- ITS FALSE NEIGHBOUR: 'it returns false'. Refute it at one input. -/
def fnExactRingNewWrong : ChangeSpec := { name := "fnExactRingNew", fn := fun _ => fun
  | [d] => { results := [.lit (.bool false)], args := [d] }
  | _ => none }
def FnExactRingNewWrongFalsely : Prop := fnExactRingNewRow.holds Try.pinned (OpenSpec.ofChange fnExactRingNewWrong)

/-- 'laws.FnExactRingOk': WHATEVER THE INPUT: true; the input reads as it did. -/
def fnExactRingOkSpec : ChangeSpec := { name := "fnExactRingOk", fn := fun _ => fun
  | [d] => { results := [.lit (.bool true)], args := [d] }
  | _ => none }
def fnExactRingOkRow : OpenClaim := { program := "ytjcphahbplmmdaa", sum := "76a6a38acdfa6b45d683577a5a040242a0cb1ee0c96e8689eaaff6d24cd70c0b", func := "loop.example/g00232/laws.FnExactRingOk", spec := "fnExactRingOk", apart := false }
def FnExactRingOkSaid : Prop := fnExactRingOkRow.holds Try.pinned (OpenSpec.ofChange fnExactRingOkSpec)

/-- ITS FALSE NEIGHBOUR: 'it returns false'. Refute it at one input. -/
def fnExactRingOkWrong : ChangeSpec := { name := "fnExactRingOk", fn := fun _ => fun
  | [d] => { results := [.lit (.bool false)], args := [d] }
  | _ => none }
def FnExactRingOkWrongFalsely : Prop := fnExactRingOkRow.holds Try.pinned (OpenSpec.ofChange fnExactRingOkWrong)

/-- 'laws.FnExactPostRing': WHATEVER THE INPUT: true; the input reads as it did. -/
def fnExactPostRingSpec : ChangeSpec := { name := "fnExactPostRing", fn := fun _ => fun
  | [d1, d2] => { results := [.lit (.bool true)], args := [d1, d2] }
  | _ => none }
def fnExactPostRingRow : OpenClaim := { program := "ytjcphahbplmmdaa", sum := "76a6a38acdfa6b45d683577a5a040242a0cb1ee0c96e8689eaaff6d24cd70c0b", func := "loop.example/g00232/laws.FnExactPostRing", spec := "fnExactPostRing", apart := false }
def FnExactPostRingSaid : Prop := fnExactPostRingRow.holds Try.pinned (OpenSpec.ofChange fnExactPostRingSpec)

/-- ITS FALSE NEIGHBOUR: 'it returns false'. Refute it at one input. -/
def fnExactPostRingWrong : ChangeSpec := { name := "fnExactPostRing", fn := fun _ => fun
  | [d1, d2] => { results := [.lit (.bool false)], args := [d1, d2] }
  | _ => none }
def FnExactPostRingWrongFalsely : Prop := fnExactPostRingRow.holds Try.pinned (OpenSpec.ofChange fnExactPostRingWrong)

/-- 'laws.FnExactTakeRing': WHATEVER THE INPUT: true; the input reads as it did. -/
def fnExactTakeRingSpec : ChangeSpec := { name := "fnExactTakeRing", fn := fun _ => fun
  | [d] => { results := [.lit (.bool true)], args := [d] }
  | _ => none }
def fnExactTakeRingRow : OpenClaim := { program := "ytjcphahbplmmdaa", sum := "76a6a38acdfa6b45d683577a5a040242a0cb1ee0c96e8689eaaff6d24cd70c0b", func := "loop.example/g00232/laws.FnExactTakeRing", spec := "fnExactTakeRing", apart := false }
def FnExactTakeRingSaid : Prop := fnExactTakeRingRow.holds Try.pinned (OpenSpec.ofChange fnExactTakeRingSpec)

/-- ITS FALSE NEIGHBOUR: 'it returns false'. Refute it at one input. -/
def fnExactTakeRingWrong : ChangeSpec := { name := "fnExactTakeRing", fn := fun _ => fun
  | [d] => { results := [.lit (.bool false)], args := [d] }
  | _ => none }
def FnExactTakeRingWrongFalsely : Prop := fnExactTakeRingRow.holds Try.pinned (OpenSpec.ofChange fnExactTakeRingWrong)

/- THE SECOND FORM. 'bulk': how many values and letters a reading holds, each counted each time it is reached (what is shared counts as often as it is met; a slice's spare places count too). A statement '..UptoSaid' is the law's where the arguments, and the package variables that the reading takes, are together of bulk at most 1048576: NARROWER than '..Said'. Prove '..Said' where nothing that the law and all that it calls make is longer than what came in: it says more and counts as full. Else prove '..UptoSaid'. A law counts once. -/
mutual
def uptoBulk {H : Type} : DataW H → Nat
  | .lit (.string bytes) => bytes.length + 1
  | .lit _ => 1
  | .nil => 1
  | .ptr d => uptoBulk d + 1
  | .slice elems spare => uptoBulkAll elems + uptoBulkAll spare + 1
  | .agg parts => uptoBulkAll parts + 1
  | .iface _ d => uptoBulk d + 1
  | .map entries => uptoBulkEntries entries + 1
  | .held _ => 1
def uptoBulkAll {H : Type} : List (DataW H) → Nat
  | [] => 0
  | d :: r => uptoBulk d + uptoBulkAll r
def uptoBulkEntries {H : Type} : List (Lit × DataW H) → Nat
  | [] => 0
  | x :: r => uptoBulkEntry x + uptoBulkEntries r
def uptoBulkEntry {H : Type} : Lit × DataW H → Nat
  | (.string bytes, d) => bytes.length + uptoBulk d + 1
  | (_, d) => uptoBulk d + 1
 end
def uptoSmall : (H : Type) → List (DataW H) → Bool := fun _ ds => decide (uptoBulkAll ds ≤ 1048576)
def OpenSpec.upto (s : _root_.Go.ChangeSpec) : _root_.Go.OpenSpec := { _root_.Go.OpenSpec.ofChange s with cond := some uptoSmall }

/-- 'laws.FnRings', WHERE WHAT IT READS IS OF BULK AT MOST 1048576: true; the input reads as it did. -/
def fnRingsUptoRow : OpenClaim := { program := "ytjcphahbplmmdaa", sum := "76a6a38acdfa6b45d683577a5a040242a0cb1ee0c96e8689eaaff6d24cd70c0b", func := "loop.example/g00232/laws.FnRings", spec := "fnRings", apart := false, narrowed := true }
def FnRingsUptoSaid : Prop := fnRingsUptoRow.holds Try.pinned (OpenSpec.upto fnRingsSpec)

/-- 'laws.FnRingsTold', WHERE WHAT IT READS IS OF BULK AT MOST 1048576: true; the input reads as it did. -/
def fnRingsToldUptoRow : OpenClaim := { program := "ytjcphahbplmmdaa", sum := "76a6a38acdfa6b45d683577a5a040242a0cb1ee0c96e8689eaaff6d24cd70c0b", func := "loop.example/g00232/laws.FnRingsTold", spec := "fnRingsTold", apart := false, narrowed := true }
def FnRingsToldUptoSaid : Prop := fnRingsToldUptoRow.holds Try.pinned (OpenSpec.upto fnRingsToldSpec)

/-- 'laws.FnExactRingNew', WHERE WHAT IT READS IS OF BULK AT MOST 1048576: true; the input reads as it did. -/
def fnExactRingNewUptoRow : OpenClaim := { program := "ytjcphahbplmmdaa", sum := "76a6a38acdfa6b45d683577a5a040242a0cb1ee0c96e8689eaaff6d24cd70c0b", func := "loop.example/g00232/laws.FnExactRingNew", spec := "fnExactRingNew", apart := false, narrowed := true }
def FnExactRingNewUptoSaid : Prop := fnExactRingNewUptoRow.holds Try.pinned (OpenSpec.upto fnExactRingNewSpec)

/-- 'laws.FnExactRingOk', WHERE WHAT IT READS IS OF BULK AT MOST 1048576: true; the input reads as it did. -/
def fnExactRingOkUptoRow : OpenClaim := { program := "ytjcphahbplmmdaa", sum := "76a6a38acdfa6b45d683577a5a040242a0cb1ee0c96e8689eaaff6d24cd70c0b", func := "loop.example/g00232/laws.FnExactRingOk", spec := "fnExactRingOk", apart := false, narrowed := true }
def FnExactRingOkUptoSaid : Prop := fnExactRingOkUptoRow.holds Try.pinned (OpenSpec.upto fnExactRingOkSpec)

/-- 'laws.FnExactPostRing', WHERE WHAT IT READS IS OF BULK AT MOST 1048576: true; the input reads as it did. -/
def fnExactPostRingUptoRow : OpenClaim := { program := "ytjcphahbplmmdaa", sum := "76a6a38acdfa6b45d683577a5a040242a0cb1ee0c96e8689eaaff6d24cd70c0b", func := "loop.example/g00232/laws.FnExactPostRing", spec := "fnExactPostRing", apart := false, narrowed := true }
def FnExactPostRingUptoSaid : Prop := fnExactPostRingUptoRow.holds Try.pinned (OpenSpec.upto fnExactPostRingSpec)

/-- 'laws.FnExactTakeRing', WHERE WHAT IT READS IS OF BULK AT MOST 1048576: true; the input reads as it did. -/
def fnExactTakeRingUptoRow : OpenClaim := { program := "ytjcphahbplmmdaa", sum := "76a6a38acdfa6b45d683577a5a040242a0cb1ee0c96e8689eaaff6d24cd70c0b", func := "loop.example/g00232/laws.FnExactTakeRing", spec := "fnExactTakeRing", apart := false, narrowed := true }
def FnExactTakeRingUptoSaid : Prop := fnExactTakeRingUptoRow.holds Try.pinned (OpenSpec.upto fnExactTakeRingSpec)

end Rows
end Go.Proofs.Ytjcphahbplmmdaa
