/-
  The walk of laws.markLog: a log of the call's own is written over with marks.
-/
import Derived.Test.YteceaohhnjlmbaaJoint38
namespace Go.Proofs.Yteceaohhnjlmbaa
open Go.RowKit

set_option maxRecDepth 1000000 in
theorem markLog_any (s t : Int) (g : Nat) (l : List EntD) (cap m : Nat) (r : List Value) (hm : m ≤ 10000000) (hl : l.length ≤ 1048576) (w : World) (hb : BlockIs w g 74 (entCells l ++ r)) :
    Calls Try.prog 42 #[.agg #[.int .i64 s, .int .i64 t, .slice (some ⟨g, 0, none⟩) l.length cap], .int .i64 m] w fun e w' => e = .returned (.int .i64 ((m + 3 * l.length : Nat) : Int)) ∧ BlockIs w' g 74 (entCells (marksE m l.length) ++ r) ∧ w.grownBy w' (some g) := by
  have C := hid (fun w hb => markEntryS_any g l cap m r hm hl w hb)
  have HD := hid (World.grownBy_alloc w (.cells #[.int .i64 s, .int .i64 t, .slice (some ⟨g, 0, none⟩) l.length cap] 33) (some g))
  have HD2 := hid (hb.on (below_more (Below.refl w.heap.size w) (.cells #[.int .i64 s, .int .i64 t, .slice (some ⟨g, 0, none⟩) l.length cap] 33)) hb.lt)
  clear hb
  go_enter Try.func42, Try.ntmps42
  go_wp2_with fail
  refine (C.out _ HD2.out).mono ?_
  rintro e w1 ⟨rfl, k1, g1⟩
  have K1 := hid k1
  have G1 := hid (HD.out.trans g1)
  clear k1 g1 C HD HD2
  go_wp2
  go_ret
  exact ⟨rfl, K1.out, G1.out⟩
end Go.Proofs.Yteceaohhnjlmbaa
