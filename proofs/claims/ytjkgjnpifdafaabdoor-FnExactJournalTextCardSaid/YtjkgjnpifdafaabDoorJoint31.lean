/-
  The walk of impl.SumOf: what it answers.
-/
import Derived.Test.YtjkgjnpifdafaabDoorJoint30
import Derived.WalkSmall
import Derived.WalkKit
namespace Go.Proofs.YtjkgjnpifdafaabDoor
open Go.RowKit

theorem implSumOf_any (s : ByteArray) (hs : s.size ≤ 140737488355328) (w : World) (ht : Steps w) :
    Calls Tryd.prog 67 #[.string s] w fun e w' => e = .returned (.int .u32 (sumOf s.data.toList)) ∧ w' = w := by
  have C := (show Hid _ from implSumMore_any 4294967295 (by omega) s hs w ht)
  clear ht
  go_enter Tryd.func67, Tryd.ntmps67
  go_wp2_with fail
  refine Calls.mono C.out ?_
  rintro e w1 ⟨rfl, hw⟩
  rw [hw]
  go_wp2
  go_ret
  exact ⟨rfl, rfl⟩
end Go.Proofs.YtjkgjnpifdafaabDoor
