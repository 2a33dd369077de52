/-
  The walk of impl.placeOk.
  The walk of impl.ConfOk: what it answers.
-/
import Derived.Test.YtoanhjjigbjecaaGreatDoorRows
import Derived.Test.YtoanhjjigbjecaaGreatDoorJoint1
import Derived.WalkSmall
import Derived.WalkKit
namespace Go.Proofs.YtoanhjjigbjecaaGreatDoor
open Go.RowKit

set_option maxRecDepth 1000000 in
theorem placeOk_any (ix tm : Int) (w : World) : Calls Tryz.prog 29 #[.int .i64 ix, .int .i64 tm] w fun e w' => e = .returned (.bool (within ix 0 1000000 && within tm 0 100000)) ∧ w' = w := by
  by_cases h1 : 0 ≤ ix
  · by_cases h2 : ix ≤ 1000000
    · by_cases h3 : 0 ≤ tm
      · have HQ : Hid ((within ix 0 1000000 && within tm 0 100000) = decide (tm ≤ 100000)) := (show _ = _ by simp [within, h1, h2, h3])
        go_enter Tryz.func29, Tryz.ntmps29
        go_wp2
        go_ret
        exact ⟨by rw [HQ.out]; rfl, rfl⟩
      · have HQ : Hid ((within ix 0 1000000 && within tm 0 100000) = false) := (show _ = _ by simp [within]; omega)
        go_enter Tryz.func29, Tryz.ntmps29
        go_wp2
        go_ret
        exact ⟨by rw [HQ.out]; rfl, rfl⟩
    · have HQ : Hid ((within ix 0 1000000 && within tm 0 100000) = false) := (show _ = _ by simp [within]; omega)
      go_enter Tryz.func29, Tryz.ntmps29
      go_wp2
      go_ret
      exact ⟨by rw [HQ.out]; rfl, rfl⟩
  · have HQ : Hid ((within ix 0 1000000 && within tm 0 100000) = false) := (show _ = _ by simp [within]; omega)
    go_enter Tryz.func29, Tryz.ntmps29
    go_wp2
    go_ret
    exact ⟨by rw [HQ.out]; rfl, rfl⟩
end Go.Proofs.YtoanhjjigbjecaaGreatDoor

namespace Go.Proofs.YtoanhjjigbjecaaGreatDoor
open Go.RowKit

set_option maxRecDepth 1000000 in
set_option maxHeartbeats 1000000 in
theorem implConfOk_any (ao : Option Addr) (zs : List Int) (cap : Nat) (hl : zs.length ≤ 1048576) (w : World) (hz : IntsAt w ao zs) :
    Calls Tryz.prog 60 #[.slice ao zs.length cap] w fun e w' => e = .returned (.bool (confOk zs)) ∧ Below w.heap.size w w' := by
  have HZ := hid hz
  clear hz
  by_cases h1 : zs.length < 1
  · have hr := hid (confOk_big (zs := zs) (by omega))
    have h1' : (zs.length : Int) < 1 := by omega
    go_enter Tryz.func60, Tryz.ntmps60
    go_wp2
    go_ret
    exact ⟨by rw [hr.out]; rfl, Below.refl _ _⟩
  by_cases h4 : 4 < zs.length
  · have hr := hid (confOk_big (zs := zs) (by omega))
    have h1' : ¬ (zs.length : Int) < 1 := by omega
    have h4' : 4 < (zs.length : Int) := by omega
    go_enter Tryz.func60, Tryz.ntmps60
    go_wp2
    go_ret
    exact ⟨by rw [hr.out]; rfl, Below.refl _ _⟩
  have h1' : ¬ (zs.length : Int) < 1 := by omega
  have h4' : ¬ 4 < (zs.length : Int) := by omega
  have HR := hid (confOk_of (zs := zs) (by omega) (by omega))
  go_enter Tryz.func60, Tryz.ntmps60
  go_wp2
  go_loop [3, 16] (fun b i => ∃ (k : Nat), k ≤ zs.length ∧ i = .int .i64 k ∧ b = .int .i64 (lastOf zs k) ∧ Hid (riseTo zs k = true)) (fun _ i => zs.length - (intOf i).toNat)
  case atStart => exact ⟨0, Nat.zero_le _, rfl, rfl, rfl⟩
  case round =>
    obtain ⟨k, hk, rfl, rfl, RT⟩ := hrel
    by_cases hlt : k < zs.length
    · have hne : zs ≠ [] := by intro e; rw [e] at hlt; simp at hlt
      obtain ⟨b, off, rfl, hc⟩ := HZ.out hne
      have x0 := hc k hlt
      have HL := hid (lastOf_step hlt)
      have HON : Hid (lastOf zs k < zs[k] → zs[k] ≤ 4 → riseTo zs (k + 1) = true) := rise_on hlt RT.out
      have HOFF : Hid (¬ (lastOf zs k < zs[k] ∧ zs[k] ≤ 4) → riseTo zs zs.length = false) := rise_off hlt RT.out
      obtain ⟨x, hx⟩ : ∃ x, zs[k] = x := ⟨_, rfl⟩
      obtain ⟨y, hy⟩ : ∃ y, lastOf zs k = y := ⟨_, rfl⟩
      rw [hx] at x0 HL HON HOFF
      rw [hy] at HON HOFF ⊢
      clear hc hx hy
      by_cases hA : x ≤ y
      · have hr := hid (HOFF.out (by omega))
        go_wp2
        go_ret
        exact ⟨by rw [HR.out, hr.out]; rfl, Below.refl _ _⟩
      · by_cases hB : 4 < x
        · have hr := hid (HOFF.out (by omega))
          go_wp2
          go_ret
          exact ⟨by rw [HR.out, hr.out]; rfl, Below.refl _ _⟩
        · have hr := hid (HON.out (by omega) (by omega))
          go_wp2
          go_round
          case rel => exact ⟨k + 1, by omega, by go_num, by rw [HL.out], hr⟩
          case measure => simp [intOf]; omega
    · obtain rfl : k = zs.length := by omega
      go_wp2
      go_ret
      exact ⟨by rw [HR.out, RT.out]; rfl, Below.refl _ _⟩
end Go.Proofs.YtoanhjjigbjecaaGreatDoor
