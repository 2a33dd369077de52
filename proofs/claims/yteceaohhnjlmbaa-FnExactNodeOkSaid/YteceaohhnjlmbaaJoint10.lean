/-
  The walk of laws.szPeerS: elements are counted.
-/
import Derived.Test.YteceaohhnjlmbaaJoint1
import Derived.Test.YteceaohhnjlmbaaRows
namespace Go.Proofs.Yteceaohhnjlmbaa
open Go.RowKit

theorem peerBulk_zero (l : List PeerD) : peerBulk l = 0 := by
  induction l with
  | nil => rfl
  | cons f l ih => simp [peerBulk, peerOne, ih]
set_option maxRecDepth 1000000 in
theorem szPeerS_any (ao : Option Addr) (l : List PeerD) (cap : Nat) (n : Int) (h0 : 0 ≤ n) (h1 : n ≤ 1048576) (hl : l.length ≤ 9223372036854775807) (w : World) :
    Calls Try.prog 22 #[.slice ao l.length cap, .int .i64 n] w fun e w' => ((n - l.length - peerBulk l < 0 ∧ e = .returned (.int .i64 (-1))) ∨ (0 ≤ n - l.length - peerBulk l ∧ e = .returned (.int .i64 (n - l.length)))) ∧ w' = w := by
  rw [peerBulk_zero]
  by_cases hn : n - (l.length : Int) < 0
  · go_enter Try.func22, Try.ntmps22
    go_wp2
    go_ret
    exact ⟨Or.inl ⟨by omega, rfl⟩, rfl⟩
  · go_enter Try.func22, Try.ntmps22
    go_wp2
    go_ret
    exact ⟨Or.inr ⟨by omega, rfl⟩, rfl⟩
end Go.Proofs.Yteceaohhnjlmbaa
