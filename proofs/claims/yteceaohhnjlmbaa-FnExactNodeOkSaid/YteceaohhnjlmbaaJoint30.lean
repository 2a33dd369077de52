/-
  The walk of impl.lastConfIn: how many entries there are up to the last conf entry.
-/
import Derived.Test.YteceaohhnjlmbaaJoint1
import Derived.Deep.LoopGhost
namespace Go.Proofs.Yteceaohhnjlmbaa
open Go.RowKit Go.Sort

set_option maxRecDepth 1000000 in
set_option maxHeartbeats 1000000 in
theorem lastConfIn_any (ao : Option Addr) (l : List EntD) (cap : Nat) (hl : l.length ≤ 1048576) (w : World) (ha : EntsAt w ao l) :
    Calls Try.prog 81 #[.slice ao l.length cap] w fun e w' => e = .returned (.int .i64 (lastTo l l.length : Nat)) ∧ w' = w := by
  have HA := hid ha
  clear ha
  go_enter Try.func81, Try.ntmps81
  go_wp2
  go_loopg [7] l.length (fun g i wr => ∃ (k : Nat), k + g = l.length ∧ i = .int .i64 k ∧ wr = w ∧ Hid (lastTo l l.length = lastTo l g))
  case atStart => exact ⟨0, by omega, rfl, rfl, (show _ = _ from rfl)⟩
  case round =>
    obtain ⟨k, hkg, rfl, rfl, HE⟩ := hrel
    cases gk with
    | zero =>
      have hlt : ¬ (k : Int) < (l.length : Int) := by omega
      have hlt0 : ¬ k < l.length := by omega
      have HR : Hid (lastTo l l.length = 0) := (show _ = _ by rw [HE.out]; rfl)
      go_wp2
      go_ret
      exact ⟨by rw [HR.out]; rfl, rfl⟩
    | succ j =>
      have hj : j < l.length := by omega
      have hlt : (k : Int) < (l.length : Int) := by omega
      have hlt0 : k < l.length := by omega
      have hne : l ≠ [] := by intro e; rw [e] at hj; simp at hj
      obtain ⟨b, off, rfl, hc⟩ := HA.out hne
      obtain ⟨_, x1, _⟩ := hc j hj
      clear hc
      have hx : (l.length : Int) - (k : Int) = (j : Int) + 1 := by omega
      by_cases h2 : l[j].kind = 2
      · have HR : Hid (lastTo l l.length = j + 1) := (show _ = _ by rw [HE.out, lastTo_step hj, if_pos h2])
        have h2b : (l[j].kind == 2) = true := by rw [beq_iff_eq]; exact h2
        clear HE
        go_wp2
        go_ret
        exact ⟨by rw [HR.out]; rfl, rfl⟩
      · have HN : Hid (lastTo l l.length = lastTo l j) := (show _ = _ by rw [HE.out, lastTo_step hj, if_neg h2])
        have h2b : (l[j].kind == 2) = false := by rw [beq_eq_false_iff_ne]; exact h2
        clear HE
        go_wp2
        go_roundg j
        case measure => omega
        case rel => exact ⟨k + 1, by omega, by go_num, rfl, HN⟩
end Go.Proofs.Yteceaohhnjlmbaa
