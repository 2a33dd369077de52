/-
  The walk of spec.l12Num: some number.
-/
import Derived.Test.YtgnoojbbicbklaaDrawInt
namespace Go.Proofs.Ytgnoojbbicbklaa
open Go.RowKit

set_option maxRecDepth 1000000 in
set_option maxHeartbeats 4000000 in
theorem l12Num_any (C : Nat) (w : World) (hc : CurAt w C) :
    Calls Try.prog 29 #[.pointer (some ⟨C, 0, none⟩)] w fun e w' => ∃ x : Int, e = .returned (.int .i64 x) ∧ CurAt w' C ∧ w.grownBy w' (some C) := by
  have hCl := hc.lt
  have K0 := hid hc
  have G0 := hid (World.grownBy.refl w (some C))
  clear hc
  go_enter Try.func29, Try.ntmps29
  go_wp2_with fail
  refine Calls.mono (l01Below_any C 65536 (by omega) (by omega) _ K0.out) ?_
  rintro e w1 ⟨y1, rfl, lo1, hi1, k1, q1⟩
  have K1 := hid (k1)
  have G1 := hid (G0.out.trans q1)
  clear k1 q1 K0 G0
  go_wp2_with fail
  refine Calls.mono (pickI_any C [0, 1, 5, 9, 65530, 65535, y1] (by simp) (by simp) 3 _ _ rfl K1.out) ?_
  rintro e w2 ⟨v2, rfl, hv2, k2, q2⟩
  have K3 := hid (k2)
  have G3 := hid (G1.out.trans q2)
  clear k2 q2 K1 G1
  clear hv2
  go_wp2
  go_ret
  exact ⟨v2, rfl, K3.out, G3.out⟩
end Go.Proofs.Ytgnoojbbicbklaa
