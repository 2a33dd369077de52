/-
  The walk of impl.placeOk.
-/
import Derived.Test.YteceaohhnjlmbaaRows
import Derived.Test.YteceaohhnjlmbaaJoint1
import Derived.WalkSmall
import Derived.WalkKit
namespace Go.Proofs.Yteceaohhnjlmbaa
open Go.RowKit

set_option maxRecDepth 1000000 in
theorem placeOk_any (ix tm : Int) (w : World) : Calls Try.prog 58 #[.int .i64 ix, .int .i64 tm] w fun e w' => e = .returned (.bool (within ix 0 1000000 && within tm 0 100000)) ∧ w' = w := by
  by_cases h1 : 0 ≤ ix
  · by_cases h2 : ix ≤ 1000000
    · by_cases h3 : 0 ≤ tm
      · have HQ : Hid ((within ix 0 1000000 && within tm 0 100000) = decide (tm ≤ 100000)) := (show _ = _ by simp [within, h1, h2, h3])
        go_enter Try.func58, Try.ntmps58
        go_wp2
        go_ret
        exact ⟨by rw [HQ.out]; rfl, rfl⟩
      · have HQ : Hid ((within ix 0 1000000 && within tm 0 100000) = false) := (show _ = _ by simp [within]; omega)
        go_enter Try.func58, Try.ntmps58
        go_wp2
        go_ret
        exact ⟨by rw [HQ.out]; rfl, rfl⟩
    · have HQ : Hid ((within ix 0 1000000 && within tm 0 100000) = false) := (show _ = _ by simp [within]; omega)
      go_enter Try.func58, Try.ntmps58
      go_wp2
      go_ret
      exact ⟨by rw [HQ.out]; rfl, rfl⟩
  · have HQ : Hid ((within ix 0 1000000 && within tm 0 100000) = false) := (show _ = _ by simp [within]; omega)
    go_enter Try.func58, Try.ntmps58
    go_wp2
    go_ret
    exact ⟨by rw [HQ.out]; rfl, rfl⟩
end Go.Proofs.Yteceaohhnjlmbaa
