/-
  The walk of impl.lastConfIn: how many entries there are up to the last conf entry.
  The walk of impl.ConfOk: what it answers.
-/
import Derived.Test.YtglibbpigmpanaaJoint1
import Derived.Deep.LoopGhost
import Derived.Test.YtglibbpigmpanaaRows
import Derived.WalkSmall
import Derived.WalkKit
namespace Go.Proofs.Ytglibbpigmpanaa
open Go.RowKit Go.Sort

set_option maxRecDepth 1000000 in
set_option maxHeartbeats 1000000 in
theorem lastConfIn_any (ao : Option Addr) (l : List EntD) (cap : Nat) (hl : l.length ≤ 1048576) (w : World) (ha : EntsAt w ao l) :
    Calls Try.prog 72 #[.slice ao l.length cap] w fun e w' => e = .returned (.int .i64 (lastTo l l.length : Nat)) ∧ w' = w := by
  have HA := hid ha
  clear ha
  go_enter Try.func72, Try.ntmps72
  go_wp2
  go_loopg [7] l.length (fun g i wr => ∃ (k : Nat), k + g = l.length ∧ i = .int .i64 k ∧ wr = w ∧ Hid (lastTo l l.length = lastTo l g))
  case atStart => exact ⟨0, by omega, rfl, rfl, (show _ = _ from rfl)⟩
  case round =>
    obtain ⟨k, hkg, rfl, rfl, HE⟩ := hrel
    cases gk with
    | zero =>
      have hlt : ¬ (k : Int) < (l.length : Int) := by omega
      have hlt0 : ¬ k < l.length := by omega
      have HR : Hid (lastTo l l.length = 0) := (show _ = _ by rw [HE.out]; rfl)
      go_wp2
      go_ret
      exact ⟨by rw [HR.out]; rfl, rfl⟩
    | succ j =>
      have hj : j < l.length := by omega
      have hlt : (k : Int) < (l.length : Int) := by omega
      have hlt0 : k < l.length := by omega
      have hne : l ≠ [] := by intro e; rw [e] at hj; simp at hj
      obtain ⟨b, off, rfl, hc⟩ := HA.out hne
      obtain ⟨_, x1, _⟩ := hc j hj
      clear hc
      have hx : (l.length : Int) - (k : Int) = (j : Int) + 1 := by omega
      by_cases h2 : l[j].kind = 2
      · have HR : Hid (lastTo l l.length = j + 1) := (show _ = _ by rw [HE.out, lastTo_step hj, if_pos h2])
        have h2b : (l[j].kind == 2) = true := by rw [beq_iff_eq]; exact h2
        clear HE
        go_wp2
        go_ret
        exact ⟨by rw [HR.out]; rfl, rfl⟩
      · have HN : Hid (lastTo l l.length = lastTo l j) := (show _ = _ by rw [HE.out, lastTo_step hj, if_neg h2])
        have h2b : (l[j].kind == 2) = false := by rw [beq_eq_false_iff_ne]; exact h2
        clear HE
        go_wp2
        go_roundg j
        case measure => omega
        case rel => exact ⟨k + 1, by omega, by go_num, rfl, HN⟩
end Go.Proofs.Ytglibbpigmpanaa

namespace Go.Proofs.Ytglibbpigmpanaa
open Go.RowKit

set_option maxRecDepth 1000000 in
set_option maxHeartbeats 1000000 in
theorem implConfOk_any (ao : Option Addr) (zs : List Int) (cap : Nat) (hl : zs.length ≤ 1048576) (w : World) (hz : IntsAt w ao zs) :
    Calls Try.prog 49 #[.slice ao zs.length cap] w fun e w' => e = .returned (.bool (confOk zs)) ∧ Below w.heap.size w w' := by
  have HZ := hid hz
  clear hz
  by_cases h1 : zs.length < 1
  · have hr := hid (confOk_big (zs := zs) (by omega))
    have h1' : (zs.length : Int) < 1 := by omega
    go_enter Try.func49, Try.ntmps49
    go_wp2
    go_ret
    exact ⟨by rw [hr.out]; rfl, Below.refl _ _⟩
  by_cases h4 : 4 < zs.length
  · have hr := hid (confOk_big (zs := zs) (by omega))
    have h1' : ¬ (zs.length : Int) < 1 := by omega
    have h4' : 4 < (zs.length : Int) := by omega
    go_enter Try.func49, Try.ntmps49
    go_wp2
    go_ret
    exact ⟨by rw [hr.out]; rfl, Below.refl _ _⟩
  have h1' : ¬ (zs.length : Int) < 1 := by omega
  have h4' : ¬ 4 < (zs.length : Int) := by omega
  have HR := hid (confOk_of (zs := zs) (by omega) (by omega))
  go_enter Try.func49, Try.ntmps49
  go_wp2
  go_loop [3, 16] (fun b i => ∃ (k : Nat), k ≤ zs.length ∧ i = .int .i64 k ∧ b = .int .i64 (lastOf zs k) ∧ Hid (riseTo zs k = true)) (fun _ i => zs.length - (intOf i).toNat)
  case atStart => exact ⟨0, Nat.zero_le _, rfl, rfl, rfl⟩
  case round =>
    obtain ⟨k, hk, rfl, rfl, RT⟩ := hrel
    by_cases hlt : k < zs.length
    · have hne : zs ≠ [] := by intro e; rw [e] at hlt; simp at hlt
      obtain ⟨b, off, rfl, hc⟩ := HZ.out hne
      have x0 := hc k hlt
      have HL := hid (lastOf_step hlt)
      have HON : Hid (lastOf zs k < zs[k] → zs[k] ≤ 4 → riseTo zs (k + 1) = true) := rise_on hlt RT.out
      have HOFF : Hid (¬ (lastOf zs k < zs[k] ∧ zs[k] ≤ 4) → riseTo zs zs.length = false) := rise_off hlt RT.out
      obtain ⟨x, hx⟩ : ∃ x, zs[k] = x := ⟨_, rfl⟩
      obtain ⟨y, hy⟩ : ∃ y, lastOf zs k = y := ⟨_, rfl⟩
      rw [hx] at x0 HL HON HOFF
      rw [hy] at HON HOFF ⊢
      clear hc hx hy
      by_cases hA : x ≤ y
      · have hr := hid (HOFF.out (by omega))
        go_wp2
        go_ret
        exact ⟨by rw [HR.out, hr.out]; rfl, Below.refl _ _⟩
      · by_cases hB : 4 < x
        · have hr := hid (HOFF.out (by omega))
          go_wp2
          go_ret
          exact ⟨by rw [HR.out, hr.out]; rfl, Below.refl _ _⟩
        · have hr := hid (HON.out (by omega) (by omega))
          go_wp2
          go_round
          case rel => exact ⟨k + 1, by omega, by go_num, by rw [HL.out], hr⟩
          case measure => simp [intOf]; omega
    · obtain rfl : k = zs.length := by omega
      go_wp2
      go_ret
      exact ⟨by rw [HR.out, RT.out]; rfl, Below.refl _ _⟩
end Go.Proofs.Ytglibbpigmpanaa
