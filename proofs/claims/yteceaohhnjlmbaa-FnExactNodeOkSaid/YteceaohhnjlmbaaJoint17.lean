/-
  The walk of laws.eqLog: two logs that are alike are found alike.
-/
import Derived.Test.YteceaohhnjlmbaaJoint16
namespace Go.Proofs.Yteceaohhnjlmbaa
open Go.RowKit Go.Sort

set_option maxRecDepth 1000000 in
theorem eqLog_same (s t : Int) (ao bo : Option Addr) (l : List EntD) (cap cap' : Nat) (hl : l.length ≤ 140737488355328) (w : World) (ha : EntsAt w ao l) (hb : EntsAt w bo l) :
    Calls Try.prog 39 #[.agg #[.int .i64 s, .int .i64 t, .slice ao l.length cap], .agg #[.int .i64 s, .int .i64 t, .slice bo l.length cap']] w fun e w' => e = .returned (.bool true) ∧ Below w.heap.size w w' := by
  have C := hid (fun w ha hb => eqEntryS_same ao bo l cap cap' hl w ha hb)
  have HBB : Hid (∀ (o p : Obj), Below w.heap.size w ((w.alloc o).alloc p)) := fun o p => below_more (below_more (Below.refl _ w) o) p
  have HA := hid ha
  have HB := hid hb
  clear ha hb
  go_enter Try.func39, Try.ntmps39
  go_wp2_with fail
  refine (C.out _ (HA.out.on (HBB.out _ _)) (HB.out.on (HBB.out _ _))).mono ?_
  rintro e w1 ⟨rfl, b1⟩
  have B1 := hid (below_via (HBB.out _ _) b1)
  clear b1 C
  go_wp2
  go_ret
  exact ⟨rfl, B1.out⟩
end Go.Proofs.Yteceaohhnjlmbaa
