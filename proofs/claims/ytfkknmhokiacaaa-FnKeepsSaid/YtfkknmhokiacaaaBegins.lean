/-
  The walk of laws.begins: whether a text begins another one.
-/
import Derived.Test.YtfkknmhokiacaaaRows
import Derived.Test.YtfkknmhokiacaaaPlainCrc
import Derived.WalkKit
namespace Go.Proofs.Ytfkknmhokiacaaa
open Go.RowKit

set_option maxRecDepth 1000000 in
theorem begins_yes (b : ByteArray) (k : Nat) (hk : k ≤ b.size) (hb : b.size ≤ 1048576) (w : World) :
    Calls Try.prog 15 #[.string (b.extract 0 k), .string b] w fun e w' => e = .returned (.bool true) ∧ w' = w := by
  have hs : (b.extract 0 k).size = k := by rw [ByteArray.size_extract]; omega
  have hq := slice_upto (P := Try.prog) Try.underlying9 b k (k : Int) rfl hk
  obtain ⟨a, ha⟩ : ∃ a, b.extract 0 k = a := ⟨_, rfl⟩
  rw [ha] at hs hq ⊢
  clear ha
  go_enter Try.func15, Try.ntmps15
  go_wp2
  go_ret
  exact ⟨by simp, rfl⟩
end Go.Proofs.Ytfkknmhokiacaaa
