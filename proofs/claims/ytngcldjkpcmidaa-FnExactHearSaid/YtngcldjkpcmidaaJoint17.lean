/-
  The walk of spec.Gap: how far a number is behind another one.
-/
import Derived.Test.YtngcldjkpcmidaaJoint16
namespace Go.Proofs.Ytngcldjkpcmidaa
open Go.RowKit

set_option maxRecDepth 1000000 in
theorem specGap_any (a b : Int) (w : World) :
    Calls Try.prog 51 #[.int .i64 a, .int .i64 b] w fun e w' => e = .returned (.int .i64 (gapNum a b)) ∧ w' = w := by
  obtain ⟨p, k, hp, p1, p2, pk⟩ := tmod_round a
  obtain ⟨q, l, hq, q1, q2, ql⟩ := tmod_round b
  have HR : Hid (addNum q (-p) = gapNum a b) := by show _ = _; unfold addNum gapNum; omega
  clear pk ql
  go_enter Try.func51, Try.ntmps51
  go_wp2_with fail
  refine (specAddNum_any q (-p) _).mono ?_
  rintro e w1 ⟨rfl, hw⟩
  rw [hw]
  clear hw w1
  rw [HR.out]
  go_wp2
  go_ret
  exact ⟨rfl, rfl⟩
end Go.Proofs.Ytngcldjkpcmidaa
