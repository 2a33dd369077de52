/-
  The walk of spec.Sealed: what it answers.
-/
import Derived.Test.YtggogiepebnckaaDoorJoint7
import Derived.Test.YtggogiepebnckaaDoorJoint8
namespace Go.Proofs.YtggogiepebnckaaDoor
open Go.RowKit

set_option maxRecDepth 1000000 in
theorem specSealed_yes (s : ByteArray) (hs : s.size ≤ 20000) (w : World) :
    Calls Tryd.prog 68 #[.string s] w fun e w' => e = .returned (.tuple #[.string (s ++ ⟨(four (sumOf s.data.toList)).toArray⟩), .bool true]) ∧ Below w.heap.size w w' := by
  have cS' := specSumOf_any s (by omega)
  have cF' := l02Four_any (sumOf s.data.toList) (sumOf_lt _)
  obtain ⟨N, hN⟩ : ∃ N, sumOf s.data.toList = N := ⟨_, rfl⟩
  rw [hN] at cS' cF' ⊢
  have hf := four_length N
  have cS := (show Hid _ from cS')
  have cF := (show Hid _ from cF')
  clear hN cS' cF'
  go_enter Tryd.func68, Tryd.ntmps68
  go_wp2_with fail
  refine (cS.out _).mono ?_
  rintro e w1 ⟨rfl, hw⟩
  rw [hw]
  clear hw w1
  go_wp2_with fail
  refine (cF.out _).mono ?_
  rintro e w2 ⟨rfl, hb⟩
  go_wp2
  go_ret2
  exact ⟨rfl, hb⟩

theorem specSealed_no (s : ByteArray) (hs : 20000 < s.size) (w : World) :
    Calls Tryd.prog 68 #[.string s] w fun e w' => e = .returned (.tuple #[.string ByteArray.empty, .bool false]) ∧ Below w.heap.size w w' := by
  go_enter Tryd.func68, Tryd.ntmps68
  go_wp2
  go_ret2
  exact ⟨rfl, Below.refl _ _⟩
end Go.Proofs.YtggogiepebnckaaDoor
