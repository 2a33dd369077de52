/-
  The walk of impl.otherSnap.
-/
import Derived.Test.YtoanhjjigbjecaaGreatDoorJoint40
import Derived.Test.YtoanhjjigbjecaaGreatDoorJoint1
namespace Go.Proofs.YtoanhjjigbjecaaGreatDoor
open Go.RowKit

set_option maxRecDepth 1000000 in
theorem otherSnap_any (s : ByteArray) (ix : Int) (w : World) : Calls Tryz.prog 38 #[.string s, .int .i64 ix] w fun e w' => e = .returned (.bool (isOther ix s)) ∧ Below w.heap.size w w' := by
  go_enter Tryz.func38, Tryz.ntmps38
  go_wp2_with fail
  refine (indexIn_any s _).mono ?_
  rintro e w1 ⟨⟨x, rfl, hx⟩, b1⟩
  have B1 := hid b1
  clear b1
  cases hn : nameNum 115 1000000 s with
  | none =>
    have HR := hid (isOther_none (ix := ix) hn)
    rw [show (none : Option Nat).isSome = false from rfl]
    clear hn hx
    go_wp2
    go_ret
    exact ⟨by rw [HR.out]; rfl, B1.out⟩
  | some n =>
    have HR := hid (isOther_some (ix := ix) hn)
    obtain rfl := hx n hn
    rw [show (some n : Option Nat).isSome = true from rfl]
    clear hn hx
    go_wp2
    go_ret
    exact ⟨by rw [HR.out]; rfl, B1.out⟩
end Go.Proofs.YtoanhjjigbjecaaGreatDoor
