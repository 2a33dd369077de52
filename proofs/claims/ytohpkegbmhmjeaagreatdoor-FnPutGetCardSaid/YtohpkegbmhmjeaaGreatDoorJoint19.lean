/-
  The walk of spec.l01In: whether a number is within bounds.
-/
import Derived.Test.YtohpkegbmhmjeaaGreatDoorRows
import Derived.Test.YtohpkegbmhmjeaaGreatDoorJoint1
import Derived.WalkKit
namespace Go.Proofs.YtohpkegbmhmjeaaGreatDoor
open Go.RowKit

set_option maxRecDepth 1000000 in
theorem l01In_any (x a b : Int) (w : World) :
    Calls Tryz.prog 55 #[.int .i64 x, .int .i64 a, .int .i64 b] w fun e w' => e = .returned (.bool (within x a b)) ∧ w' = w := by
  unfold within
  by_cases h1 : a ≤ x
  · by_cases h2 : x ≤ b
    · go_enter Tryz.func55, Tryz.ntmps55
      go_wp2
      go_ret
      exact ⟨by simp [h1, h2], rfl⟩
    · go_enter Tryz.func55, Tryz.ntmps55
      go_wp2
      go_ret
      exact ⟨by simp; omega, rfl⟩
  · go_enter Tryz.func55, Tryz.ntmps55
    go_wp2
    go_ret
    exact ⟨by simp; omega, rfl⟩
end Go.Proofs.YtohpkegbmhmjeaaGreatDoor
