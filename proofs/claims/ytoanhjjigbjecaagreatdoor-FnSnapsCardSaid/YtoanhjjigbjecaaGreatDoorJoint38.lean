/-
  The walk of impl.SnapName, where the library's table lies as its text lays it.
-/
import Derived.Test.YtoanhjjigbjecaaGreatDoorJoint1
import Derived.Laws.Concat
import Derived.Test.YtoanhjjigbjecaaGreatDoorJoint37
namespace Go.Proofs.YtoanhjjigbjecaaGreatDoor
open Go.RowKit

set_option maxRecDepth 1000000 in
set_option maxHeartbeats 1000000 in
theorem implSName_any (n : Int) (w : World) (htab : Lib.TabIs Tryz.prog w "internal/strconv.uint64pow10" .u64 Lib.pow10Tab) : Calls Tryz.prog 14 #[.int .i64 n] w fun e w' => e = .returned (.string (sname n)) ∧ Below w.heap.size w w' := by
  have HT := hid htab
  clear htab
  cases h1 : within n 0 1000000 with
  | false =>
    have HJ := hid (sname_no h1)
    have hb : n < 0 ∨ 1000000 < n := by
      rcases Int.lt_or_le n 0 with h | h
      · exact .inl h
      · rcases Int.lt_or_le 1000000 n with h2 | h2
        · exact .inr h2
        · rw [within_iff.2 ⟨h, h2⟩] at h1; cases h1
    go_enter Tryz.func14, Tryz.ntmps14
    clear h1
    rcases hb with hb | hb
    · go_wp2
      go_ret
      exact ⟨by rw [HJ.out]; rfl, Below.refl _ _⟩
    · have hb0 : 0 ≤ n := by omega
      go_wp2
      go_ret
      exact ⟨by rw [HJ.out]; rfl, Below.refl _ _⟩
  | true =>
    have HJ := hid (sname_yes h1)
    have hb := within_iff.1 h1
    go_enter Tryz.func14, Tryz.ntmps14
    clear h1
    have hb1 := hb.1
    have hb2 := hb.2
    go_wp2_with fail
    refine (implDecimal_any n (by omega) (by omega) _ HT.out).mono ?_
    rintro e w1 ⟨rfl, b1⟩
    have B1 := hid b1
    clear b1
    obtain ⟨T, hT⟩ : ∃ T : ByteArray, (⟨(dec n).toArray⟩ : ByteArray) = T := ⟨_, rfl⟩
    have hTs : T.size ≤ 7 := by rw [← hT]; exact dec_small7 (by omega)
    rw [hT] at HJ ⊢
    clear hT
    obtain ⟨U, hU⟩ : ∃ U : ByteArray, (⟨#[115]⟩ : ByteArray) ++ T = U := ⟨_, rfl⟩
    have hs1 : ∀ w, (Op.stringOp .add ⟨#[115]⟩ T).run Tryz.prog w = .ok (.string U) w := fun w => by rw [run_string_add_sum w _ _ (by rw [show (⟨#[115]⟩ : ByteArray).size = 1 from rfl]; omega), hU]
    rw [hU] at HJ
    clear hU
    go_wp2
    go_ret
    exact ⟨by rw [HJ.out]; rfl, B1.out⟩
end Go.Proofs.YtoanhjjigbjecaaGreatDoor
