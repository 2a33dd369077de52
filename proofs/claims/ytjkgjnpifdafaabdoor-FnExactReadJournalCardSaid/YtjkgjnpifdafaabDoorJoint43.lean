/-
  The walk of impl.SumOf: what it answers.
  The walk of impl's bytes of a check sum: a sum in four bytes.
-/
import Derived.Test.YtjkgjnpifdafaabDoorJoint42
import Derived.WalkSmall
import Derived.WalkKit
import Derived.Test.YtjkgjnpifdafaabDoorJoint26
namespace Go.Proofs.YtjkgjnpifdafaabDoor
open Go.RowKit

theorem implSumOf_any (s : ByteArray) (hs : s.size ≤ 140737488355328) (w : World) (ht : Steps w) :
    Calls Tryd.prog 67 #[.string s] w fun e w' => e = .returned (.int .u32 (sumOf s.data.toList)) ∧ w' = w := by
  have C := (show Hid _ from implSumMore_any 4294967295 (by omega) s hs w ht)
  clear ht
  go_enter Tryd.func67, Tryd.ntmps67
  go_wp2_with fail
  refine Calls.mono C.out ?_
  rintro e w1 ⟨rfl, hw⟩
  rw [hw]
  go_wp2
  go_ret
  exact ⟨rfl, rfl⟩
end Go.Proofs.YtjkgjnpifdafaabDoor

namespace Go.Proofs.YtjkgjnpifdafaabDoor
open Go.RowKit

set_option maxRecDepth 1000000 in
theorem sumBytes_any (x : Nat) (hx : x < 4294967296) (w : World) :
    Calls Tryd.prog 68 #[.int .u32 x] w fun e w' => e = .returned (.string ⟨(four x).toArray⟩) ∧ Below w.heap.size w w' := by
  have ht := four_text x hx w
  go_enter Tryd.func68, Tryd.ntmps68
  go_wp2
  go_ret
  exact ⟨rfl, (Below.refl _ _).alloc (Nat.le_refl _) _⟩
end Go.Proofs.YtjkgjnpifdafaabDoor
