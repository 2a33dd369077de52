/-
  The walk of impl.(*endpoint).mayTry.
-/
import Derived.Test.YtcmcmhiodkjflaaJoint1
import Derived.Deep.QuietTactic
import Derived.BigQuiet
import Derived.Lib.QuietBelow
namespace Go.Proofs.Ytcmcmhiodkjflaa
open Go.RowKit

set_option maxRecDepth 1000000 in
set_option maxHeartbeats 2000000 in
theorem mayTry_any (lo g : Nat) (d : StrD) (now : Int) (out : List SegD) (w : World) (h : EpIs w lo g d now out) :
    Calls Try.prog 64 #[.pointer (some ⟨g, 0, none⟩)] w fun e w' => e = .returned (.bool (tryB now d)) ∧ Below w.heap.size w w' := by
  obtain ⟨_, ao, cap, ov, oc, hb, _, _⟩ := h
  have c11 := hb.cell (j := 11) rfl
  have c12 := hb.cell (j := 12) rfl
  have c13 := hb.cell (j := 13) rfl
  clear hb
  by_cases h1 : d.due ≤ now
  · have h1d : decide (d.due ≤ now) = true := decide_eq_true h1
    have HR : Hid (tryB now d = decide (d.times < 12)) := by show _ = _; rw [tryB, h1d]; rfl
    go_enter Try.func64, Try.ntmps64
    go_wp2
    go_quiet (fail)
    go_wp2
    go_ret
    exact ⟨by rw [HR.out]; rfl, below_drewN (Below.refl _ _) _⟩
  · have h1d : decide (d.due ≤ now) = false := decide_eq_false h1
    have HR : Hid (tryB now d = false) := by show _ = _; rw [tryB, h1d]; rfl
    go_enter Try.func64, Try.ntmps64
    go_wp2
    go_quiet (fail)
    go_wp2
    go_ret
    exact ⟨by rw [HR.out]; rfl, below_drewN (Below.refl _ _) _⟩
end Go.Proofs.Ytcmcmhiodkjflaa
