/-
  The walks of impl.numberOk, headOk.
-/
import Derived.Test.YtjkgjnpifdafaaaRows
import Derived.Test.YtjkgjnpifdafaaaPlainIn
import Derived.Test.YtjkgjnpifdafaaaBlock
import Derived.WalkSmall
import Derived.WalkKit
namespace Go.Proofs.Ytjkgjnpifdafaaa
open Go.RowKit

set_option maxRecDepth 1000000 in
theorem numberOk_any (n : Int) (w : World) : Calls Try.prog 63 #[.int .i64 n] w fun e w' => e = .returned (.bool (within n 0 999)) ∧ w' = w := by
  by_cases h1 : 0 ≤ n
  · by_cases h2 : n ≤ 999
    · have hq : within n 0 999 = true := within_iff.2 ⟨h1, h2⟩
      have HQ := hid hq
      clear hq
      go_enter Try.func63, Try.ntmps63
      go_wp2
      go_ret
      exact ⟨by rw [HQ.out]; simp, rfl⟩
    · have HQ : Hid (within n 0 999 = false) := (show _ = _ by simp [within]; omega)
      go_enter Try.func63, Try.ntmps63
      go_wp2
      go_ret
      exact ⟨by rw [HQ.out]; simp, rfl⟩
  · have HQ : Hid (within n 0 999 = false) := (show _ = _ by simp [within]; omega)
    go_enter Try.func63, Try.ntmps63
    go_wp2
    go_ret
    exact ⟨by rw [HQ.out]; rfl, rfl⟩
set_option maxRecDepth 1000000 in
theorem headOk_any (tm vt : Int) (w : World) : Calls Try.prog 64 #[.int .i64 tm, .int .i64 vt] w fun e w' => e = .returned (.bool (within tm 0 100000 && within vt 0 4)) ∧ w' = w := by
  by_cases h1 : 0 ≤ tm
  · by_cases h2 : tm ≤ 100000
    · by_cases h3 : 0 ≤ vt
      · have HQ : Hid ((within tm 0 100000 && within vt 0 4) = decide (vt ≤ 4)) := (show _ = _ by simp [within, h1, h2, h3])
        go_enter Try.func64, Try.ntmps64
        go_wp2
        go_ret
        exact ⟨by rw [HQ.out]; rfl, rfl⟩
      · have HQ : Hid ((within tm 0 100000 && within vt 0 4) = false) := (show _ = _ by simp [within]; omega)
        go_enter Try.func64, Try.ntmps64
        go_wp2
        go_ret
        exact ⟨by rw [HQ.out]; rfl, rfl⟩
    · have HQ : Hid ((within tm 0 100000 && within vt 0 4) = false) := (show _ = _ by simp [within]; omega)
      go_enter Try.func64, Try.ntmps64
      go_wp2
      go_ret
      exact ⟨by rw [HQ.out]; rfl, rfl⟩
  · have HQ : Hid ((within tm 0 100000 && within vt 0 4) = false) := (show _ = _ by simp [within]; omega)
    go_enter Try.func64, Try.ntmps64
    go_wp2
    go_ret
    exact ⟨by rw [HQ.out]; rfl, rfl⟩
end Go.Proofs.Ytjkgjnpifdafaaa
