/-
  The walk of spec.l16Short.
-/
import Derived.Test.YtoanhjjigbjecaaGreatDoorJoint17
import Derived.Test.YtoanhjjigbjecaaGreatDoorJoint1
namespace Go.Proofs.YtoanhjjigbjecaaGreatDoor
open Go.RowKit

theorem vbs (n : Nat) (h : n ≤ 1000000000) : (⟨(vb n).toArray⟩ : ByteArray).size ≤ 5 := by
  have := vb_len h
  show (vb n).toArray.size ≤ 5
  simpa using this

set_option maxRecDepth 1000000 in
theorem l16Short_any (s : ByteArray) (hs : s.size ≤ 1000) (w : World) :
    Calls Tryz.prog 51 #[.string s] w fun e w' => e = .returned (.string (⟨(vb s.size).toArray⟩ ++ s)) ∧ Below w.heap.size w w' := by
  have cV := hid (l01Var_any s.size (by omega))
  have hv := vbs s.size (by omega)
  obtain ⟨V, hV⟩ : ∃ V : ByteArray, ⟨(vb s.size).toArray⟩ = V := ⟨_, rfl⟩
  rw [hV] at cV hv ⊢
  clear hV
  go_enter Tryz.func51, Tryz.ntmps51
  go_wp2_with (go_at_call 50; refine (cV.out _).mono ?_; rintro e w1 ⟨rfl, b1⟩)
  go_ret
  exact ⟨rfl, b1⟩
end Go.Proofs.YtoanhjjigbjecaaGreatDoor
