/-
  The walks of impl's small tests of a keep's and a command's fields.
  The walk of impl.indexOk: what it answers.
-/
import Derived.Test.YtihgkocfgjihhaaDoorJoint1
import Derived.Test.YtihgkocfgjihhaaDoorRows
import Derived.WalkKit
namespace Go.Proofs.YtihgkocfgjihhaaDoor
open Go.RowKit

set_option maxRecDepth 1000000 in
theorem seqOk_any (x : Int) (w : World) : Calls Tryd.prog 66 #[.int .i64 x] w fun e w' => e = .returned (.bool (within x 0 1000000)) ∧ w' = w := by
  unfold within
  by_cases h1 : 0 ≤ x
  · by_cases h2 : x ≤ 1000000
    · skip
      go_enter Tryd.func66, Tryd.ntmps66
      go_wp2
      go_ret
      exact ⟨by simp; omega, rfl⟩
    · skip
      go_enter Tryd.func66, Tryd.ntmps66
      go_wp2
      go_ret
      exact ⟨by simp; omega, rfl⟩
  · skip
    go_enter Tryd.func66, Tryd.ntmps66
    go_wp2
    go_ret
    exact ⟨by simp; omega, rfl⟩

set_option maxRecDepth 1000000 in
theorem keyOk_any (x : ByteArray) (w : World) : Calls Tryd.prog 67 #[.string x] w fun e w' => e = .returned (.bool (within (x.size : Int) 1 8)) ∧ w' = w := by
  unfold within
  by_cases h1 : 1 ≤ (x.size : Int)
  · by_cases h2 : (x.size : Int) ≤ 8
    · skip
      go_enter Tryd.func67, Tryd.ntmps67
      go_wp2
      go_ret
      exact ⟨by simp; omega, rfl⟩
    · skip
      go_enter Tryd.func67, Tryd.ntmps67
      go_wp2
      go_ret
      exact ⟨by simp; omega, rfl⟩
  · skip
    go_enter Tryd.func67, Tryd.ntmps67
    go_wp2
    go_ret
    exact ⟨by simp; omega, rfl⟩

set_option maxRecDepth 1000000 in
theorem valOk_any (x : ByteArray) (w : World) : Calls Tryd.prog 68 #[.string x] w fun e w' => e = .returned (.bool (decide ((x.size : Int) ≤ 20))) ∧ w' = w := by
  go_enter Tryd.func68, Tryd.ntmps68
  go_wp2
  go_ret
  exact ⟨rfl, rfl⟩

set_option maxRecDepth 1000000 in
theorem verOk_any (x : Int) (w : World) : Calls Tryd.prog 69 #[.int .i64 x] w fun e w' => e = .returned (.bool (within x 1 1000000000)) ∧ w' = w := by
  unfold within
  by_cases h1 : 1 ≤ x
  · by_cases h2 : x ≤ 1000000000
    · skip
      go_enter Tryd.func69, Tryd.ntmps69
      go_wp2
      go_ret
      exact ⟨by simp; omega, rfl⟩
    · skip
      go_enter Tryd.func69, Tryd.ntmps69
      go_wp2
      go_ret
      exact ⟨by simp; omega, rfl⟩
  · skip
    go_enter Tryd.func69, Tryd.ntmps69
    go_wp2
    go_ret
    exact ⟨by simp; omega, rfl⟩

end Go.Proofs.YtihgkocfgjihhaaDoor

namespace Go.Proofs.YtihgkocfgjihhaaDoor
open Go.RowKit

set_option maxRecDepth 1000000 in
theorem indexOk_any (x : Int) (w : World) : Calls Tryd.prog 89 #[.int .i64 x] w fun e w' => e = .returned (.bool (within x 1 1000000)) ∧ w' = w := by
  unfold within
  by_cases h1 : 1 ≤ x
  · by_cases h2 : x ≤ 1000000
    · go_enter Tryd.func89, Tryd.ntmps89
      go_wp2
      go_ret
      exact ⟨by simp [h1, h2], rfl⟩
    · go_enter Tryd.func89, Tryd.ntmps89
      go_wp2
      go_ret
      exact ⟨by simp; omega, rfl⟩
  · go_enter Tryd.func89, Tryd.ntmps89
    go_wp2
    go_ret
    exact ⟨by simp; omega, rfl⟩
end Go.Proofs.YtihgkocfgjihhaaDoor
