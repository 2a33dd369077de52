/-
  Lists of acts in the exact laws: all helpers.
-/
import Derived.Test.YthkfgiilbkjojabJoint20
namespace Go.Proofs.Ythkfgiilbkjojab
end Go.Proofs.Ythkfgiilbkjojab
