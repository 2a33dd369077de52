/-
  The walks of impl.indexIn, otherSnap.
-/
import Derived.Test.YtcneaidfhmbdmabDoorJoint34
namespace Go.Proofs.YtcneaidfhmbdmabDoor
open Go.RowKit

set_option maxRecDepth 1000000 in
theorem indexIn_any (s : ByteArray) (w : World) : Calls Tryd.prog 50 #[.string s] w fun e w' => NameDid (nameNum 115 1000000 s) w e w' := by
  have C := hid (fun w => numberInName_any 115 s 1000000 (by omega) w)
  go_enter Tryd.func50, Tryd.ntmps50
  go_wp2_with fail
  refine (C.out _).mono ?_
  rintro e w1 ⟨⟨x, rfl, hx⟩, b1⟩
  have HX := hid hx
  have B1 := hid b1
  clear hx b1 C
  go_wp2
  go_ret2
  exact ⟨⟨x, rfl, HX.out⟩, B1.out⟩
end Go.Proofs.YtcneaidfhmbdmabDoor
