/-
  The walks of spec.AddNum and spec.Gap: numbers that go round.
-/
import Derived.Test.YtngcldjkpcmidaaJoint1
import Derived.Test.YtngcldjkpcmidaaRows
import Derived.WalkKit
namespace Go.Proofs.Ytngcldjkpcmidaa
open Go.RowKit

theorem tmod_round (a : Int) : ∃ p k : Int, a.tmod 65536 = p ∧ -65536 < p ∧ p < 65536 ∧ a = p + 65536 * k := by
  by_cases h : 0 ≤ a
  · exact ⟨a % 65536, a / 65536, Int.tmod_eq_emod_of_nonneg h, by omega, by omega, by omega⟩
  · refine ⟨-((-a) % 65536), -((-a) / 65536), ?_, by omega, by omega, by omega⟩
    have h2 := Int.neg_tmod (-a) 65536
    rw [Int.neg_neg] at h2
    rw [h2, Int.tmod_eq_emod_of_nonneg (by omega)]

set_option maxRecDepth 1000000 in
theorem specAddNum_any (a n : Int) (w : World) :
    Calls Try.prog 21 #[.int .i64 a, .int .i64 n] w fun e w' => e = .returned (.int .i64 (addNum a n)) ∧ w' = w := by
  obtain ⟨p, k, hp, p1, p2, pk⟩ := tmod_round a
  obtain ⟨q, l, hq, q1, q2, ql⟩ := tmod_round n
  obtain ⟨r, m, hr, r1, r2, rm⟩ := tmod_round (p + q)
  by_cases h : r < 0
  · have HR : Hid (addNum a n = r + 65536) := by show _ = _; unfold addNum; omega
    clear pk ql rm
    go_enter Try.func21, Try.ntmps21
    go_wp2
    go_ret
    exact ⟨by rw [HR.out]; rfl, rfl⟩
  · have HR : Hid (addNum a n = r) := by show _ = _; unfold addNum; omega
    clear pk ql rm
    go_enter Try.func21, Try.ntmps21
    go_wp2
    go_ret
    exact ⟨by rw [HR.out]; rfl, rfl⟩
end Go.Proofs.Ytngcldjkpcmidaa
