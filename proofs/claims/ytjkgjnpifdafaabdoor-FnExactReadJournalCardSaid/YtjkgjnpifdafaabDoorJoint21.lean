/-
  The walk of spec.l06Last: what it answers.
-/
import Derived.Test.YtjkgjnpifdafaabDoorJoint1
import Derived.Test.YtjkgjnpifdafaabDoorRows
namespace Go.Proofs.YtjkgjnpifdafaabDoor
open Go.RowKit

set_option maxRecDepth 1000000 in
theorem l06Last_any (s t : Int) (ao : Option Addr) (l : List EntD) (cap : Nat) (hs : 0 ≤ s ∧ s ≤ 2000000) (hl : l.length ≤ 1048576) (w : World) :
    Calls Tryd.prog 76 #[.agg #[.int .i64 s, .int .i64 t, .slice ao l.length cap]] w fun e w' => e = .returned (.int .i64 (s + l.length)) ∧ Below w.heap.size w w' := by
  have HB := hid (below_more (Below.refl w.heap.size w) (.cells #[.int .i64 s, .int .i64 t, .slice ao l.length cap] 32))
  go_enter Tryd.func76, Tryd.ntmps76
  go_wp2
  go_ret
  exact ⟨rfl, HB.out⟩
end Go.Proofs.YtjkgjnpifdafaabDoor
