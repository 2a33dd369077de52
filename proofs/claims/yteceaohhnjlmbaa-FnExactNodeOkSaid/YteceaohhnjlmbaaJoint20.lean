/-
  The walk of spec.l01In: whether a number is within bounds.
-/
import Derived.Test.YteceaohhnjlmbaaRows
import Derived.Test.YteceaohhnjlmbaaJoint1
import Derived.WalkKit
namespace Go.Proofs.Yteceaohhnjlmbaa
open Go.RowKit

set_option maxRecDepth 1000000 in
theorem l01In_any (x a b : Int) (w : World) :
    Calls Try.prog 23 #[.int .i64 x, .int .i64 a, .int .i64 b] w fun e w' => e = .returned (.bool (within x a b)) ∧ w' = w := by
  unfold within
  by_cases h1 : a ≤ x
  · by_cases h2 : x ≤ b
    · go_enter Try.func23, Try.ntmps23
      go_wp2
      go_ret
      exact ⟨by simp [h1, h2], rfl⟩
    · go_enter Try.func23, Try.ntmps23
      go_wp2
      go_ret
      exact ⟨by simp; omega, rfl⟩
  · go_enter Try.func23, Try.ntmps23
    go_wp2
    go_ret
    exact ⟨by simp; omega, rfl⟩
end Go.Proofs.Yteceaohhnjlmbaa
