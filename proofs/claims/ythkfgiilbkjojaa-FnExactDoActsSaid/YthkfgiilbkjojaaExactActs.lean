/-
  Lists of acts in the exact laws: all helpers.
-/
import Derived.Test.YthkfgiilbkjojaaMarkActS
namespace Go.Proofs.Ythkfgiilbkjojaa
end Go.Proofs.Ythkfgiilbkjojaa
