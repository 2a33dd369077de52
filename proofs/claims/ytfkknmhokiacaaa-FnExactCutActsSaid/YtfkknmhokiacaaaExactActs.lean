/-
  Lists of acts in the exact laws: all helpers.
-/
import Derived.Test.YtfkknmhokiacaaaMarkActS
namespace Go.Proofs.Ytfkknmhokiacaaa
end Go.Proofs.Ytfkknmhokiacaaa
