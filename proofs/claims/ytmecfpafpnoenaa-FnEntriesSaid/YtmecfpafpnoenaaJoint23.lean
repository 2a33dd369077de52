/-
  The walk of spec.l05Index: some index.
-/
import Derived.Test.YtmecfpafpnoenaaJoint8
namespace Go.Proofs.Ytmecfpafpnoenaa
open Go.RowKit

set_option maxRecDepth 1000000 in
set_option maxHeartbeats 1000000 in
theorem l05Index_any (C : Nat) (w : World) (hc : CurAt w C) :
    Calls Try.prog 40 #[.pointer (some ⟨C, 0, none⟩)] w fun e w' => ∃ x : Int, e = .returned (.int .i64 x) ∧ (-1 ≤ x ∧ x ≤ 1000001) ∧ CurAt w' C ∧ w.grownBy w' (some C) := by
  have hCl := hc.lt
  have K0 := hid hc
  have G0 := hid (World.grownBy.refl w (some C))
  clear hc
  go_enter Try.func40, Try.ntmps40
  go_wp2_with fail
  refine Calls.mono (l01Once_any C 12 (by omega) (by omega) _ K0.out) ?_
  rintro e w1 ⟨b1, rfl, k1, q1⟩
  have K1 := hid (k1)
  have G1 := hid (G0.out.trans q1)
  clear k1 q1 K0 G0
  cases b1 with
  | true =>
    go_wp2_with fail
    refine Calls.mono (pickI_any C [0, -1, 1000000, 1000001] (by decide) (by decide) 3 _ _ rfl K1.out) ?_
    rintro e w2 ⟨x2, rfl, hx2, k2, q2⟩
    have K3 := hid (k2)
    have G3 := hid (G1.out.trans q2)
    clear k2 q2 K1 G1
    have hb : -1 ≤ x2 ∧ x2 ≤ 1000001 := by simp at hx2; omega
    clear hx2
    go_wp2
    go_ret
    exact ⟨_, rfl, hb, K3.out, G3.out⟩
  | false =>
    go_wp2_with fail
    refine Calls.mono (l01Below_any C 200 (by omega) (by omega) _ K1.out) ?_
    rintro e w2 ⟨x2, rfl, hx2, hy2, k2, q2⟩
    have K3 := hid (k2)
    have G3 := hid (G1.out.trans q2)
    clear k2 q2 K1 G1
    go_wp2
    go_ret
    exact ⟨_, rfl, by omega, K3.out, G3.out⟩
end Go.Proofs.Ytmecfpafpnoenaa
