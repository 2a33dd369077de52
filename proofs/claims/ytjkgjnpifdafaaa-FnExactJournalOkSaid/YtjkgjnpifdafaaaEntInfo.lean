/-
  An entry's cells and size, as the program tells them.
-/
import Derived.Test.YtjkgjnpifdafaaaRows
import Derived.WalkKit
import Derived.OwnWalk
namespace Go.Proofs.Ytjkgjnpifdafaaa
open Go.RowKit

theorem toEnt_info : (Try.prog.info? 35).map (fun i => (i.zero, i.size, i.bytes)) = some (some (.agg #[.int .i64 0, .int .i64 0, .string ByteArray.empty]), 3, 32) := by kernel_rfl
theorem made_ents (n : Nat) : (madeCells (Value.agg #[.int .i64 0, .int .i64 0, .string ByteArray.empty]).cells (n * 3)).toList.length = n * 3 := by
  simp [madeCells]

end Go.Proofs.Ytjkgjnpifdafaaa
