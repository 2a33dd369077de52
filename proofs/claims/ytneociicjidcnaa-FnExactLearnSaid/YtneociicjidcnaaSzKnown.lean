/-
  The walk of laws.szKnownS: elements are counted.
-/
import Derived.Test.YtneociicjidcnaaDataKnown
import Derived.Test.YtneociicjidcnaaRows
namespace Go.Proofs.Ytneociicjidcnaa
open Go.RowKit

theorem knownBulk_zero (l : List KnownD) : knownBulk l = 0 := by
  induction l with
  | nil => rfl
  | cons f l ih => simp [knownBulk, knownOne, ih]
set_option maxRecDepth 1000000 in
theorem szKnownS_any (ao : Option Addr) (l : List KnownD) (cap : Nat) (n : Int) (h0 : 0 ≤ n) (h1 : n ≤ 1048576) (hl : l.length ≤ 9223372036854775807) (w : World) :
    Calls Try.prog 14 #[.slice ao l.length cap, .int .i64 n] w fun e w' => ((n - l.length - knownBulk l < 0 ∧ e = .returned (.int .i64 (-1))) ∨ (0 ≤ n - l.length - knownBulk l ∧ e = .returned (.int .i64 (n - l.length)))) ∧ w' = w := by
  rw [knownBulk_zero]
  by_cases hn : n - (l.length : Int) < 0
  · go_enter Try.func14, Try.ntmps14
    go_wp2
    go_ret
    exact ⟨Or.inl ⟨by omega, rfl⟩, rfl⟩
  · go_enter Try.func14, Try.ntmps14
    go_wp2
    go_ret
    exact ⟨Or.inr ⟨by omega, rfl⟩, rfl⟩
end Go.Proofs.Ytneociicjidcnaa
