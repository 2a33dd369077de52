/-
  The walks of impl's small tests of a keep's and a command's fields.
-/
import Derived.Test.YtpbcblehebfpkaaJoint1
import Derived.Test.YtpbcblehebfpkaaRows
import Derived.WalkKit
namespace Go.Proofs.Ytpbcblehebfpkaa
open Go.RowKit

set_option maxRecDepth 1000000 in
theorem seqOk_any (x : Int) (w : World) : Calls Try.prog 60 #[.int .i64 x] w fun e w' => e = .returned (.bool (within x 0 1000000)) ∧ w' = w := by
  unfold within
  by_cases h1 : 0 ≤ x
  · by_cases h2 : x ≤ 1000000
    · skip
      go_enter Try.func60, Try.ntmps60
      go_wp2
      go_ret
      exact ⟨by simp; omega, rfl⟩
    · skip
      go_enter Try.func60, Try.ntmps60
      go_wp2
      go_ret
      exact ⟨by simp; omega, rfl⟩
  · skip
    go_enter Try.func60, Try.ntmps60
    go_wp2
    go_ret
    exact ⟨by simp; omega, rfl⟩

set_option maxRecDepth 1000000 in
theorem keyOk_any (x : ByteArray) (w : World) : Calls Try.prog 61 #[.string x] w fun e w' => e = .returned (.bool (within (x.size : Int) 1 8)) ∧ w' = w := by
  unfold within
  by_cases h1 : 1 ≤ (x.size : Int)
  · by_cases h2 : (x.size : Int) ≤ 8
    · skip
      go_enter Try.func61, Try.ntmps61
      go_wp2
      go_ret
      exact ⟨by simp; omega, rfl⟩
    · skip
      go_enter Try.func61, Try.ntmps61
      go_wp2
      go_ret
      exact ⟨by simp; omega, rfl⟩
  · skip
    go_enter Try.func61, Try.ntmps61
    go_wp2
    go_ret
    exact ⟨by simp; omega, rfl⟩

set_option maxRecDepth 1000000 in
theorem valOk_any (x : ByteArray) (w : World) : Calls Try.prog 62 #[.string x] w fun e w' => e = .returned (.bool (decide ((x.size : Int) ≤ 20))) ∧ w' = w := by
  go_enter Try.func62, Try.ntmps62
  go_wp2
  go_ret
  exact ⟨rfl, rfl⟩

set_option maxRecDepth 1000000 in
theorem verOk_any (x : Int) (w : World) : Calls Try.prog 63 #[.int .i64 x] w fun e w' => e = .returned (.bool (within x 1 1000000000)) ∧ w' = w := by
  unfold within
  by_cases h1 : 1 ≤ x
  · by_cases h2 : x ≤ 1000000000
    · skip
      go_enter Try.func63, Try.ntmps63
      go_wp2
      go_ret
      exact ⟨by simp; omega, rfl⟩
    · skip
      go_enter Try.func63, Try.ntmps63
      go_wp2
      go_ret
      exact ⟨by simp; omega, rfl⟩
  · skip
    go_enter Try.func63, Try.ntmps63
    go_wp2
    go_ret
    exact ⟨by simp; omega, rfl⟩

end Go.Proofs.Ytpbcblehebfpkaa
