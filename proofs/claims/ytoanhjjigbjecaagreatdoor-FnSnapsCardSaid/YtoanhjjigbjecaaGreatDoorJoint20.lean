/-
  The walk of spec.l05Short.
-/
import Derived.Test.YtoanhjjigbjecaaGreatDoorJoint17
import Derived.Test.YtoanhjjigbjecaaGreatDoorJoint1
import Derived.Laws.Concat
namespace Go.Proofs.YtoanhjjigbjecaaGreatDoor
open Go.RowKit

set_option maxRecDepth 1000000 in
theorem l05Short_any (s : ByteArray) (hs : s.size ≤ 1048576) (w : World) : Calls Tryz.prog 57 #[.string s] w fun e w' => e = .returned (.string (shortT s)) ∧ Below w.heap.size w w' := by
  have cV := hid (fun w => l01Var_any s.size (by omega) w)
  have hz := vb_le s.size
  obtain ⟨V, hV⟩ : ∃ V : ByteArray, ⟨(vb s.size).toArray⟩ = V := ⟨_, rfl⟩
  have hVs : V.size ≤ 1048577 := by rw [← hV]; show (vb s.size).toArray.size ≤ _; rw [List.size_toArray]; omega
  rw [hV] at cV
  obtain ⟨T, hT⟩ : ∃ T, shortT s = T := ⟨_, rfl⟩
  have hT2 : V ++ s = T := by rw [← hT, shortT, hV]
  rw [hT]
  have hs1 : ∀ w, (Op.stringOp .add V s).run Tryz.prog w = .ok (.string T) w := fun w => by rw [run_string_add_sum w _ _ (by omega), hT2]
  clear hT hT2 hV hz
  go_enter Tryz.func57, Tryz.ntmps57
  go_wp2_with fail
  refine (cV.out _).mono ?_
  rintro e w1 ⟨rfl, b1⟩
  have B1 := hid b1
  clear b1 cV
  go_wp2
  go_ret
  exact ⟨rfl, B1.out⟩
end Go.Proofs.YtoanhjjigbjecaaGreatDoor
