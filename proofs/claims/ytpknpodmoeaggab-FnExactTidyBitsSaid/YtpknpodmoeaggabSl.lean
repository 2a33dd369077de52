/-
  A slice as data: where it lies, how long it is, how much room it has.
-/
import Derived.WalkKit
namespace Go.Proofs.Ytpknpodmoeaggab

structure SlD where
  ad : Option Addr
  len : Nat
  cap : Nat
end Go.Proofs.Ytpknpodmoeaggab
