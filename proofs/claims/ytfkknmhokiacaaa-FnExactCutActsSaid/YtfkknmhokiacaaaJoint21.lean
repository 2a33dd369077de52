/-
  Lists of acts in the exact laws: all helpers.
-/
import Derived.Test.YtfkknmhokiacaaaJoint20
namespace Go.Proofs.Ytfkknmhokiacaaa
end Go.Proofs.Ytfkknmhokiacaaa
