/-
  Two facts that both sums use.
-/
import Derived.Test.YtneociicjidcnaaDoorPlainCrc
import Derived.WalkKit
namespace Go.Proofs.YtneociicjidcnaaDoor
open Go.RowKit

theorem take_one (s : ByteArray) (k : Nat) (h : k < s.size) : s.data.toList.take (k + 1) = s.data.toList.take k ++ [s[k]] := by
  rw [List.take_succ_eq_append_getElem (by simpa using h)]; rfl

theorem ret_u32 {a b : Nat} (h : a = b) : Ending.returned (.int .u32 a) = .returned (.int .u32 b) := by rw [h]

end Go.Proofs.YtneociicjidcnaaDoor
