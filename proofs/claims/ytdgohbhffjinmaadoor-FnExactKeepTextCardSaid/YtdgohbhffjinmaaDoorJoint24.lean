/-
  The walks of impl's small tests of a keep's and a command's fields.
-/
import Derived.Test.YtdgohbhffjinmaaDoorJoint1
import Derived.Test.YtdgohbhffjinmaaDoorRows
import Derived.WalkKit
namespace Go.Proofs.YtdgohbhffjinmaaDoor
open Go.RowKit

set_option maxRecDepth 1000000 in
theorem seqOk_any (x : Int) (w : World) : Calls Tryd.prog 33 #[.int .i64 x] w fun e w' => e = .returned (.bool (within x 0 1000000)) ∧ w' = w := by
  unfold within
  by_cases h1 : 0 ≤ x
  · by_cases h2 : x ≤ 1000000
    · skip
      go_enter Tryd.func33, Tryd.ntmps33
      go_wp2
      go_ret
      exact ⟨by simp; omega, rfl⟩
    · skip
      go_enter Tryd.func33, Tryd.ntmps33
      go_wp2
      go_ret
      exact ⟨by simp; omega, rfl⟩
  · skip
    go_enter Tryd.func33, Tryd.ntmps33
    go_wp2
    go_ret
    exact ⟨by simp; omega, rfl⟩

set_option maxRecDepth 1000000 in
theorem keyOk_any (x : ByteArray) (w : World) : Calls Tryd.prog 34 #[.string x] w fun e w' => e = .returned (.bool (within (x.size : Int) 1 8)) ∧ w' = w := by
  unfold within
  by_cases h1 : 1 ≤ (x.size : Int)
  · by_cases h2 : (x.size : Int) ≤ 8
    · skip
      go_enter Tryd.func34, Tryd.ntmps34
      go_wp2
      go_ret
      exact ⟨by simp; omega, rfl⟩
    · skip
      go_enter Tryd.func34, Tryd.ntmps34
      go_wp2
      go_ret
      exact ⟨by simp; omega, rfl⟩
  · skip
    go_enter Tryd.func34, Tryd.ntmps34
    go_wp2
    go_ret
    exact ⟨by simp; omega, rfl⟩

set_option maxRecDepth 1000000 in
theorem valOk_any (x : ByteArray) (w : World) : Calls Tryd.prog 35 #[.string x] w fun e w' => e = .returned (.bool (decide ((x.size : Int) ≤ 20))) ∧ w' = w := by
  go_enter Tryd.func35, Tryd.ntmps35
  go_wp2
  go_ret
  exact ⟨rfl, rfl⟩

set_option maxRecDepth 1000000 in
theorem verOk_any (x : Int) (w : World) : Calls Tryd.prog 36 #[.int .i64 x] w fun e w' => e = .returned (.bool (within x 1 1000000000)) ∧ w' = w := by
  unfold within
  by_cases h1 : 1 ≤ x
  · by_cases h2 : x ≤ 1000000000
    · skip
      go_enter Tryd.func36, Tryd.ntmps36
      go_wp2
      go_ret
      exact ⟨by simp; omega, rfl⟩
    · skip
      go_enter Tryd.func36, Tryd.ntmps36
      go_wp2
      go_ret
      exact ⟨by simp; omega, rfl⟩
  · skip
    go_enter Tryd.func36, Tryd.ntmps36
    go_wp2
    go_ret
    exact ⟨by simp; omega, rfl⟩

end Go.Proofs.YtdgohbhffjinmaaDoor
