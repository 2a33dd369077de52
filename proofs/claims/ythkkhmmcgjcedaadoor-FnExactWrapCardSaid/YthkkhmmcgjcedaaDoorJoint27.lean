/-
  The walk of impl.isAddress: whether a number is an address.
-/
import Derived.Test.YthkkhmmcgjcedaaDoorRows
import Derived.Test.YthkkhmmcgjcedaaDoorJoint1
import Derived.WalkKit
namespace Go.Proofs.YthkkhmmcgjcedaaDoor
open Go.RowKit

set_option maxRecDepth 1000000 in
theorem isAddress_any (x : Int) (w : World) : Calls Tryd.prog 41 #[.int .i64 x] w fun e w' => e = .returned (.bool (within x 1 99)) ∧ w' = w := by
  unfold within
  by_cases h1 : 1 ≤ x
  · by_cases h2 : x ≤ 99
    · go_enter Tryd.func41, Tryd.ntmps41
      go_wp2
      go_ret
      exact ⟨by simp [h1, h2], rfl⟩
    · go_enter Tryd.func41, Tryd.ntmps41
      go_wp2
      go_ret
      exact ⟨by simp; omega, rfl⟩
  · go_enter Tryd.func41, Tryd.ntmps41
    go_wp2
    go_ret
    exact ⟨by simp; omega, rfl⟩
end Go.Proofs.YthkkhmmcgjcedaaDoor
