/-
  The walk of spec.l01Figure: the figure of a number from 0 to 15.
-/
import Derived.Test.YtohpkegbmhmjeaaGreatDoorRows
import Derived.Test.YtohpkegbmhmjeaaGreatDoorJoint1
import Derived.WalkKit
namespace Go.Proofs.YtohpkegbmhmjeaaGreatDoor
open Go.RowKit

theorem l01Figure_any (x : Int) (h0 : 0 ≤ x) (h1 : x ≤ 15) (w : World) :
    Calls Tryz.prog 94 #[.int .i64 x] w fun e w' => e = .returned (.int .u8 (fig x)) ∧ w' = w := by
  by_cases h : x < 10
  · have hf : fig x = 48 + x := if_pos h
    rw [hf]
    go_enter Tryz.func94, Tryz.ntmps94
    go_wp2
    go_ret
    exact ⟨rfl, rfl⟩
  · have hf : fig x = 87 + x := if_neg h
    rw [hf]
    have e : (97 : Int) + x - 10 = 87 + x := by omega
    have HE : Hid ((97 : Int) + x - 10 = 87 + x) := e
    clear e hf
    go_enter Tryz.func94, Tryz.ntmps94
    go_wp2
    go_ret
    exact ⟨by simp [HE.out], rfl⟩
end Go.Proofs.YtohpkegbmhmjeaaGreatDoor
