/-
  The walk of spec.JournalName.
  The walk of spec.SnapName.
-/
import Derived.Test.YtihgkocfgjihhaaGreatDoorJoint1
import Derived.Laws.Concat
import Derived.Test.YtihgkocfgjihhaaGreatDoorJoint32
import Derived.Test.YtihgkocfgjihhaaGreatDoorJoint48
namespace Go.Proofs.YtihgkocfgjihhaaGreatDoor
open Go.RowKit

set_option maxRecDepth 1000000 in
set_option maxHeartbeats 1000000 in
theorem specJName_any (n : Int) (w : World) : Calls Tryz.prog 25 #[.int .i64 n] w fun e w' => e = .returned (.string (jname n)) ∧ Below w.heap.size w w' := by
  cases h1 : within n 0 999 with
  | false =>
    have HJ := hid (jname_no h1)
    go_enter Tryz.func25, Tryz.ntmps25
    go_wp2_with fail
    refine (l01In_any n 0 999 _).mono ?_
    rintro e w1 ⟨rfl, hw⟩
    rw [hw, h1]
    clear hw w1 h1
    go_wp2
    go_ret
    exact ⟨by rw [HJ.out]; rfl, Below.refl _ _⟩
  | true =>
    have HJ := hid (jname_yes h1)
    have hb := within_iff.1 h1
    obtain ⟨m, rfl⟩ : ∃ m : Nat, n = m := ⟨n.toNat, by omega⟩
    go_enter Tryz.func25, Tryz.ntmps25
    go_wp2_with fail
    refine (l01In_any m 0 999 _).mono ?_
    rintro e w1 ⟨rfl, hw⟩
    rw [hw, h1]
    clear hw w1 h1
    go_wp2_with fail
    refine (specDecimal_nat m (by omega) _).mono ?_
    rintro e w1 ⟨rfl, b1⟩
    have B1 := hid b1
    clear b1
    obtain ⟨T, hT⟩ : ∃ T : ByteArray, (⟨(dec m).toArray⟩ : ByteArray) = T := ⟨_, rfl⟩
    have hTs : T.size ≤ 3 := by rw [← hT]; exact dec_small (by omega)
    rw [hT] at HJ ⊢
    clear hT
    obtain ⟨U, hU⟩ : ∃ U : ByteArray, (⟨#[106]⟩ : ByteArray) ++ T = U := ⟨_, rfl⟩
    have hs1 : ∀ w, (Op.stringOp .add ⟨#[106]⟩ T).run Tryz.prog w = .ok (.string U) w := fun w => by rw [run_string_add_sum w _ _ (by rw [show (⟨#[106]⟩ : ByteArray).size = 1 from rfl]; omega), hU]
    rw [hU] at HJ
    clear hU
    go_wp2
    go_ret
    exact ⟨by rw [HJ.out]; rfl, B1.out⟩
end Go.Proofs.YtihgkocfgjihhaaGreatDoor

namespace Go.Proofs.YtihgkocfgjihhaaGreatDoor
open Go.RowKit

set_option maxRecDepth 1000000 in
set_option maxHeartbeats 1000000 in
theorem specSName_any (n : Int) (w : World) : Calls Tryz.prog 26 #[.int .i64 n] w fun e w' => e = .returned (.string (sname n)) ∧ Below w.heap.size w w' := by
  cases h1 : within n 0 1000000 with
  | false =>
    have HJ := hid (sname_no h1)
    go_enter Tryz.func26, Tryz.ntmps26
    go_wp2_with fail
    refine (l01In_any n 0 1000000 _).mono ?_
    rintro e w1 ⟨rfl, hw⟩
    rw [hw, h1]
    clear hw w1 h1
    go_wp2
    go_ret
    exact ⟨by rw [HJ.out]; rfl, Below.refl _ _⟩
  | true =>
    have HJ := hid (sname_yes h1)
    have hb := within_iff.1 h1
    obtain ⟨m, rfl⟩ : ∃ m : Nat, n = m := ⟨n.toNat, by omega⟩
    go_enter Tryz.func26, Tryz.ntmps26
    go_wp2_with fail
    refine (l01In_any m 0 1000000 _).mono ?_
    rintro e w1 ⟨rfl, hw⟩
    rw [hw, h1]
    clear hw w1 h1
    go_wp2_with fail
    refine (specDecimal_nat m (by omega) _).mono ?_
    rintro e w1 ⟨rfl, b1⟩
    have B1 := hid b1
    clear b1
    obtain ⟨T, hT⟩ : ∃ T : ByteArray, (⟨(dec m).toArray⟩ : ByteArray) = T := ⟨_, rfl⟩
    have hTs : T.size ≤ 7 := by rw [← hT]; exact dec_small7 (by omega)
    rw [hT] at HJ ⊢
    clear hT
    obtain ⟨U, hU⟩ : ∃ U : ByteArray, (⟨#[115]⟩ : ByteArray) ++ T = U := ⟨_, rfl⟩
    have hs1 : ∀ w, (Op.stringOp .add ⟨#[115]⟩ T).run Tryz.prog w = .ok (.string U) w := fun w => by rw [run_string_add_sum w _ _ (by rw [show (⟨#[115]⟩ : ByteArray).size = 1 from rfl]; omega), hU]
    rw [hU] at HJ
    clear hU
    go_wp2
    go_ret
    exact ⟨by rw [HJ.out]; rfl, B1.out⟩
end Go.Proofs.YtihgkocfgjihhaaGreatDoor
