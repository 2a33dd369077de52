/-
  The walk of a number's text: two bytes.
-/
import Derived.Test.YthkkhmmcgjcedaaDoorJoint24
import Derived.Laws.BitsAllLaws
namespace Go.Proofs.YthkkhmmcgjcedaaDoor
open Go.RowKit

set_option maxRecDepth 1000000 in
theorem numText_any (n : Nat) (hn : n ≤ 65535) (w : World) :
    Calls Tryd.prog 29 #[.int .u16 (n : Int)] w fun e w' => e = .returned (.string ⟨(twoB n).toArray⟩) ∧ Below w.heap.size w w' := by
  have h1 : (0 : Int) ≤ (n : Int) := by omega
  have h2 : (n : Int) ≤ 65535 := by omega
  go_enter Tryd.func29, Tryd.ntmps29
  go_wp2_with fail
  refine (twoBytes_any n hn _).mono ?_
  rintro e w1 ⟨rfl, b⟩
  have B := hid b
  obtain ⟨X, hX⟩ : ∃ X : ByteArray, ⟨(twoB n).toArray⟩ = X := ⟨_, rfl⟩
  rw [hX]
  have HX := hid hX
  clear b hX
  go_wp2
  go_ret
  exact ⟨by rw [HX.out]; rfl, B.out⟩
end Go.Proofs.YthkkhmmcgjcedaaDoor
