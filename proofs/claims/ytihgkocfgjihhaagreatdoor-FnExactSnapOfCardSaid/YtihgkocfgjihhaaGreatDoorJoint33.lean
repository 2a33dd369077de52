/-
  The walks of spec.l05Rise and spec.ConfOk: what they answer.
-/
import Derived.Test.YtihgkocfgjihhaaGreatDoorJoint1
import Derived.Test.YtihgkocfgjihhaaGreatDoorJoint29
import Derived.Deep.QuietTactic
import Derived.BigQuiet
import Derived.Lib.QuietBelow
import Derived.WalkSmall
import Derived.Laws.Cover1
namespace Go.Proofs.YtihgkocfgjihhaaGreatDoor
open Go.RowKit

set_option maxRecDepth 1000000 in
set_option maxHeartbeats 1000000 in
theorem l05Rise_any (ao : Option Addr) (zs : List Int) (cap : Nat) (hl : zs.length ≤ 1048576) (w : World) (hz : IntsAt w ao zs) :
    Calls Tryz.prog 158 #[.slice ao zs.length cap, .int .i64 1, .int .i64 4] w fun e w' => e = .returned (.bool (riseTo zs zs.length)) ∧ Below w.heap.size w w' := by
  have HZ := hid hz
  clear hz
  go_enter Tryz.func158, Tryz.ntmps158
  go_wp2
  go_loopw [7] (fun i wr => ∃ (k : Nat), k ≤ zs.length ∧ i = .int .i64 k ∧ Hid (Below w.heap.size w wr) ∧ Hid (riseTo zs k = true)) (fun i _ => zs.length - (intOf i).toNat)
  case atStart => exact ⟨0, Nat.zero_le _, rfl, Below.refl _ _, rfl⟩
  case round =>
    obtain ⟨k, hk, rfl, BR, RT⟩ := hrel
    by_cases hlt : k < zs.length
    · have hne : zs ≠ [] := by intro e; rw [e] at hlt; simp at hlt
      obtain ⟨b, off, rfl, hc⟩ := (HZ.out.on BR.out) hne
      have x0 := hc k hlt
      have HC := hid hc
      obtain ⟨x, hx⟩ : ∃ x, zs[k] = x := ⟨_, rfl⟩
      rw [hx] at x0
      have HXe := hid hx
      have cN' := fun w => l01In_any x 1 4 w
      clear hc hx
      cases hA : within x 1 4 with
      | false =>
        have hr : Hid (riseTo zs zs.length = false) := not_rise hlt (by rw [HXe.out, hA]; rfl)
        rw [hA] at cN'
        have cN := hid cN'
        clear cN' hA
        go_wp2
        go_quiet (first | (go_at_call 60; refine Calls.quiet_of_same (cN.out _)) | fail)
        go_wp2
        go_ret
        exact ⟨by rw [hr.out]; rfl, below_drewN BR.out _⟩
      | true =>
        rw [hA] at cN'
        have cN := hid cN'
        clear cN'
        cases k with
        | zero =>
          simp only [Nat.add_zero] at x0
          have HR : Hid (riseTo zs 1 = true) := by show _ = _; rw [riseTo_step hlt, HXe.out, hA]; rfl
          clear hA
          go_wp2
          go_quiet (first | (go_at_call 60; refine Calls.quiet_of_same (cN.out _)) | fail)
          go_wp2
          go_roundw
          case rel => exact ⟨1, by omega, by go_num, below_drewN BR.out _, HR⟩
          case measure => simp [intOf]; omega
        | succ j =>
          have hj : j < zs.length := by omega
          have p0 := HC.out j hj
          obtain ⟨y, hy⟩ : ∃ y, zs[j] = y := ⟨_, rfl⟩
          rw [hy] at p0
          have HYe := hid hy
          clear hy
          have hpos : (0 : Int) < (((j + 1 : Nat)) : Int) := by omega
          have hsub : (((j + 1 : Nat)) : Int) - 1 = (j : Int) := by omega
          have hjl : (j : Int) < (zs.length : Int) := by omega
          have hwj : IntKind.i64.wrap (j : Int) = (j : Int) := by rw [IntKind.wrap_i64]; omega
          by_cases hL : y < x
          · have HR : Hid (riseTo zs (j + 1 + 1) = true) := by show _ = _; rw [riseTo_step hlt, RT.out, behindI_step hlt, HXe.out, HYe.out, hA]; simp [hL]
            have hL' : decide (x ≤ y) = false := by simpa using hL
            clear hA hL
            go_wp2
            go_quiet (first | (go_at_call 60; refine Calls.quiet_of_same (cN.out _)) | fail)
            go_wp2
            go_roundw
            case rel => exact ⟨j + 1 + 1, by omega, by go_num, below_drewN BR.out _, HR⟩
            case measure => simp [intOf]; omega
          · have hr : Hid (riseTo zs zs.length = false) := not_rise hlt (by rw [behindI_step hlt, HXe.out, HYe.out]; simp [hL])
            have hL' : decide (x ≤ y) = true := by simpa using hL
            clear hA hL
            go_wp2
            go_quiet (first | (go_at_call 60; refine Calls.quiet_of_same (cN.out _)) | fail)
            go_wp2
            go_ret
            exact ⟨by rw [hr.out]; rfl, below_drewN BR.out _⟩
    · obtain rfl : k = zs.length := by omega
      go_wp2
      go_ret
      exact ⟨by rw [RT.out]; rfl, BR.out⟩

set_option maxRecDepth 1000000 in
set_option maxHeartbeats 1000000 in
theorem specConfOk_any (ao : Option Addr) (zs : List Int) (cap : Nat) (hl : zs.length ≤ 1048576) (w : World) (hz : IntsAt w ao zs) :
    Calls Tryz.prog 113 #[.slice ao zs.length cap] w fun e w' => e = .returned (.bool (confOk zs)) ∧ Below w.heap.size w w' := by
  have HZ := hid hz
  have cN' := fun w => l01In_any zs.length 1 4 w
  clear hz
  by_cases h4 : 1 ≤ zs.length ∧ zs.length ≤ 4
  · rw [within_yes (by omega) (by omega)] at cN'
    have cN := hid cN'
    have cR := hid (l05Rise_any ao zs cap hl w HZ.out)
    have hr := hid (confOk_of h4.1 h4.2)
    clear cN'
    obtain ⟨b, hb⟩ : ∃ b, riseTo zs zs.length = b := ⟨_, rfl⟩
    rw [hb] at cR hr
    clear hb
    go_enter Tryz.func113, Tryz.ntmps113
    go_wp2_with (first | (go_at_call 60; refine (cN.out _).mono ?_; rintro e w1 ⟨rfl, hw⟩; rw [hw]; clear hw w1) | (go_at_call 158; refine Calls.mono cR.out ?_; rintro e w2 ⟨rfl, b2⟩))
    go_ret
    exact ⟨by rw [hr.out]; rfl, b2⟩
  · rw [within_no (by omega)] at cN'
    have cN := hid cN'
    have hr := hid (confOk_big (zs := zs) (by omega))
    clear cN'
    go_enter Tryz.func113, Tryz.ntmps113
    go_wp2_with (go_at_call 60; refine (cN.out _).mono ?_; rintro e w1 ⟨rfl, hw⟩; rw [hw]; clear hw w1)
    go_ret
    exact ⟨by rw [hr.out]; rfl, Below.refl _ _⟩
end Go.Proofs.YtihgkocfgjihhaaGreatDoor
