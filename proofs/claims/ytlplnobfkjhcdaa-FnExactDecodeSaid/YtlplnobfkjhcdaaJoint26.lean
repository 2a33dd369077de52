/-
  The walk of impl.indexOk: what it answers.
-/
import Derived.Test.YtlplnobfkjhcdaaRows
import Derived.Test.YtlplnobfkjhcdaaJoint1
import Derived.WalkKit
namespace Go.Proofs.Ytlplnobfkjhcdaa
open Go.RowKit

set_option maxRecDepth 1000000 in
theorem indexOk_any (x : Int) (w : World) : Calls Try.prog 55 #[.int .i64 x] w fun e w' => e = .returned (.bool (within x 1 1000000)) ∧ w' = w := by
  unfold within
  by_cases h1 : 1 ≤ x
  · by_cases h2 : x ≤ 1000000
    · go_enter Try.func55, Try.ntmps55
      go_wp2
      go_ret
      exact ⟨by simp [h1, h2], rfl⟩
    · go_enter Try.func55, Try.ntmps55
      go_wp2
      go_ret
      exact ⟨by simp; omega, rfl⟩
  · go_enter Try.func55, Try.ntmps55
    go_wp2
    go_ret
    exact ⟨by simp; omega, rfl⟩
end Go.Proofs.Ytlplnobfkjhcdaa
