/-
  The walk of spec.l13Power: 2 to a number, at most 64.
-/
import Derived.Test.YtcmcmhiodkjflaaJoint1
import Derived.Test.YtcmcmhiodkjflaaRows
import Derived.Deep.LoopGhost
namespace Go.Proofs.Ytcmcmhiodkjflaa
open Go.RowKit

theorem pow64_six {n : Nat} (h : 6 ≤ n) : pow64 (n : Int) = 64 := by
  unfold pow64
  have h1 : (2 : Nat) ^ 6 ≤ 2 ^ n := Nat.pow_le_pow_right (by decide) h
  have h2 : ((2 : Nat) ^ 6 : Nat) = 64 := by decide
  have h3 : ((2 : Int) ^ ((n : Int).toNat)) = (((2 : Nat) ^ n : Nat) : Int) := by simp
  rw [h3]
  omega
set_option maxRecDepth 1000000 in
set_option maxHeartbeats 2000000 in
theorem l13Power_any (n : Nat) (hn : n ≤ 12) (w : World) :
    Calls Try.prog 43 #[.int .i64 (n : Int)] w fun e w' => e = .returned (.int .i64 (pow64 (n : Int))) ∧ w' = w := by
  go_enter Try.func43, Try.ntmps43
  go_wp2
  go_loopg [3, 4] 6 (fun q o i wr => ∃ k : Nat, k + q = 6 ∧ k ≤ n ∧ o = .int .i64 ((2 ^ k : Nat) : Int) ∧ i = .int .i64 (k : Int) ∧ wr = w)
  case atStart => exact ⟨0, rfl, Nat.zero_le _, rfl, rfl, rfl⟩
  case round =>
    obtain ⟨k, hkq, hkn, rfl, rfl, rfl⟩ := hrel
    by_cases hk : k = n
    · subst hk
      obtain rfl | rfl | rfl | rfl | rfl | rfl | rfl : k = 0 ∨ k = 1 ∨ k = 2 ∨ k = 3 ∨ k = 4 ∨ k = 5 ∨ k = 6 := by omega
      all_goals
        go_wp2
        go_ret
        exact ⟨rfl, rfl⟩
    · have hlt : (k : Int) < (n : Int) := by omega
      have hk6 : k = 0 ∨ k = 1 ∨ k = 2 ∨ k = 3 ∨ k = 4 ∨ k = 5 ∨ k = 6 := by omega
      clear hk hkn
      cases gk with
      | zero =>
        obtain rfl : k = 6 := by omega
        have HP := hid (pow64_six (n := n) (by omega))
        go_wp2
        go_ret
        exact ⟨by rw [HP.out]; rfl, rfl⟩
      | succ q =>
        obtain rfl | rfl | rfl | rfl | rfl | rfl | rfl := hk6
        all_goals first | (exfalso; omega) | skip
        all_goals
          go_wp2
          go_roundg q
          case measure => omega
          case rel => first | exact ⟨1, by omega, by omega, rfl, rfl, rfl⟩ | exact ⟨2, by omega, by omega, rfl, rfl, rfl⟩ | exact ⟨3, by omega, by omega, rfl, rfl, rfl⟩ | exact ⟨4, by omega, by omega, rfl, rfl, rfl⟩ | exact ⟨5, by omega, by omega, rfl, rfl, rfl⟩ | exact ⟨6, by omega, by omega, rfl, rfl, rfl⟩
end Go.Proofs.Ytcmcmhiodkjflaa
