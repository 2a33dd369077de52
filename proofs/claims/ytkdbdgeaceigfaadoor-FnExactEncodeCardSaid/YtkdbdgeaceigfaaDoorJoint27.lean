/-
  The walk of impl.ShortText: what it answers.
-/
import Derived.Test.YtkdbdgeaceigfaaDoorJoint26
namespace Go.Proofs.YtkdbdgeaceigfaaDoor
open Go.RowKit

theorem implShortText_yes (s : ByteArray) (hn : s.size ≤ 20000) (w : World) :
    Calls Tryd.prog 50 #[.string s] w fun e w' => e = .returned (.tuple #[.string (⟨(vb s.size).toArray⟩ ++ s), .bool true]) ∧ Below w.heap.size w w' := by
  have hv := vb_le s.size
  go_enter Tryd.func50, Tryd.ntmps50
  go_wp2_with (go_at_call 47; refine (implVarText_yes s.size (by omega) _).mono ?_; rintro e w' ⟨rfl, hb⟩)
  go_ret2
  exact ⟨rfl, hb⟩

theorem implShortText_no (s : ByteArray) (hn : 20000 < s.size) (w : World) :
    Calls Tryd.prog 50 #[.string s] w fun e w' => e = .returned (.tuple #[.string ByteArray.empty, .bool false]) ∧ Below w.heap.size w w' := by
  go_enter Tryd.func50, Tryd.ntmps50
  go_wp2
  go_ret2
  exact ⟨rfl, Below.refl _ _⟩
end Go.Proofs.YtkdbdgeaceigfaaDoor
