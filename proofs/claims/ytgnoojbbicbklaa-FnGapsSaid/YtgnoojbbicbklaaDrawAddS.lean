/-
  The walk of spec.DrawAddNum: some two numbers.
-/
import Derived.Test.YtgnoojbbicbklaaNumDraw
import Derived.Test.YtgnoojbbicbklaaCurNew
import Derived.Test.YtgnoojbbicbklaaBig
namespace Go.Proofs.Ytgnoojbbicbklaa
open Go.RowKit

set_option maxRecDepth 1000000 in
set_option maxHeartbeats 4000000 in
theorem drawAddNum_any (ao : Option Addr) (len cap : Nat) (hlen : len ≤ 1048576) (hcap : len ≤ cap) (w : World) (hr : Bytes w ao len) :
    Calls Try.prog 11 #[.slice ao len cap] w fun e w' => ∃ x y : Int, e = .returned (.tuple #[.int .i64 x, .int .i64 y]) ∧ Below w.heap.size w w' := by
  have HR := hid hr
  clear hr
  go_enter Try.func11, Try.ntmps11
  go_wp2_with fail
  refine (l01New_any ao len cap hlen hcap _ HR.out).mono ?_
  rintro e w1 ⟨rfl, k1, b1⟩
  have K1 := hid k1
  have B1 := hid b1
  clear k1 b1
  go_wp2_with fail
  refine (l12Num_any w.heap.size _ K1.out).mono ?_
  rintro e w2 ⟨x, rfl, k2, q2⟩
  have K2 := hid k2
  have B2 := hid (below_cur B1.out q2)
  clear k2 q2 K1 B1
  go_wp2_with fail
  refine (l01Below_any w.heap.size 500 (by omega) (by omega) _ K2.out).mono ?_
  rintro e w3 ⟨z, rfl, lo, hi, k3, q3⟩
  have K3 := hid k3
  have B3 := hid (below_cur B2.out q3)
  clear k3 q3 K2 B2
  go_wp2_with fail
  refine Calls.mono (pickI_any w.heap.size [0, 1, -1, 70000, -70000, 9223372036854775807, -9223372036854775808, z] (by simp) (by simp) 3 _ _ rfl K3.out) ?_
  rintro e w4 ⟨y, rfl, hy, k4, q4⟩
  have B4 := hid (below_cur B3.out q4)
  clear k4 q4 hy
  go_wp2
  go_ret2
  exact ⟨x, y, rfl, B4.out⟩
end Go.Proofs.Ytgnoojbbicbklaa
