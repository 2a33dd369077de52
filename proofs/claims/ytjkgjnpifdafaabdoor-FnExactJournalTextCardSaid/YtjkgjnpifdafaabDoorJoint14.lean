/-
  The walks of spec.SumOf: what they answer.
-/
import Derived.Test.YtjkgjnpifdafaabDoorRows
import Derived.Test.YtjkgjnpifdafaabDoorJoint13
import Derived.Deep.LoopGhost
import Derived.WalkKit
namespace Go.Proofs.YtjkgjnpifdafaabDoor
open Go.RowKit

theorem specSumOf_any (s : ByteArray) (hs : s.size ≤ 140737488355328) (w : World) :
    Calls Tryd.prog 38 #[.string s] w fun e w' => e = .returned (.int .u32 (sumOf s.data.toList)) ∧ w' = w := by
  have C := (show Hid _ from specSumMore_any 4294967295 (by omega) s hs w)
  go_enter Tryd.func38, Tryd.ntmps38
  go_wp2_with fail
  refine Calls.mono C.out ?_
  rintro e w1 ⟨rfl, hw⟩
  rw [hw]
  go_wp2
  go_ret
  exact ⟨rfl, rfl⟩
end Go.Proofs.YtjkgjnpifdafaabDoor
