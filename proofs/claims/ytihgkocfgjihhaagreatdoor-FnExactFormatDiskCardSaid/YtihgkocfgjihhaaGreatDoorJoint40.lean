/-
  The walks of spec.SumOf: what they answer.
  The walk of spec.Sealed: what it answers.
-/
import Derived.Test.YtihgkocfgjihhaaGreatDoorRows
import Derived.Test.YtihgkocfgjihhaaGreatDoorJoint36
import Derived.Deep.LoopGhost
import Derived.WalkKit
import Derived.Test.YtihgkocfgjihhaaGreatDoorJoint21
namespace Go.Proofs.YtihgkocfgjihhaaGreatDoor
open Go.RowKit

theorem specSumOf_any (s : ByteArray) (hs : s.size ≤ 140737488355328) (w : World) :
    Calls Tryz.prog 111 #[.string s] w fun e w' => e = .returned (.int .u32 (sumOf s.data.toList)) ∧ w' = w := by
  have C := (show Hid _ from specSumMore_any 4294967295 (by omega) s hs w)
  go_enter Tryz.func111, Tryz.ntmps111
  go_wp2_with fail
  refine Calls.mono C.out ?_
  rintro e w1 ⟨rfl, hw⟩
  rw [hw]
  go_wp2
  go_ret
  exact ⟨rfl, rfl⟩
end Go.Proofs.YtihgkocfgjihhaaGreatDoor

namespace Go.Proofs.YtihgkocfgjihhaaGreatDoor
open Go.RowKit

set_option maxRecDepth 1000000 in
theorem specSealed_yes (s : ByteArray) (hs : s.size ≤ 20000) (w : World) :
    Calls Tryz.prog 62 #[.string s] w fun e w' => e = .returned (.tuple #[.string (s ++ ⟨(four (sumOf s.data.toList)).toArray⟩), .bool true]) ∧ Below w.heap.size w w' := by
  have cS' := specSumOf_any s (by omega)
  have cF' := l02Four_any (sumOf s.data.toList) (sumOf_lt _)
  obtain ⟨N, hN⟩ : ∃ N, sumOf s.data.toList = N := ⟨_, rfl⟩
  rw [hN] at cS' cF' ⊢
  have hf := four_length N
  have cS := (show Hid _ from cS')
  have cF := (show Hid _ from cF')
  clear hN cS' cF'
  go_enter Tryz.func62, Tryz.ntmps62
  go_wp2_with fail
  refine (cS.out _).mono ?_
  rintro e w1 ⟨rfl, hw⟩
  rw [hw]
  clear hw w1
  go_wp2_with fail
  refine (cF.out _).mono ?_
  rintro e w2 ⟨rfl, hb⟩
  go_wp2
  go_ret2
  exact ⟨rfl, hb⟩

theorem specSealed_no (s : ByteArray) (hs : 20000 < s.size) (w : World) :
    Calls Tryz.prog 62 #[.string s] w fun e w' => e = .returned (.tuple #[.string ByteArray.empty, .bool false]) ∧ Below w.heap.size w w' := by
  go_enter Tryz.func62, Tryz.ntmps62
  go_wp2
  go_ret2
  exact ⟨rfl, Below.refl _ _⟩
end Go.Proofs.YtihgkocfgjihhaaGreatDoor
