/-
  Lists of acts in the exact laws: all helpers.
-/
import Derived.Test.YtkhendpefmoecaaMarkActS
namespace Go.Proofs.Ytkhendpefmoecaa
end Go.Proofs.Ytkhendpefmoecaa
