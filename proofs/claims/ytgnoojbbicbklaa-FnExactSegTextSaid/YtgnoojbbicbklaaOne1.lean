/-
  A text of one byte, out of a row that was just laid.
-/
import Derived.Test.YtgnoojbbicbklaaBlock
import Derived.Test.YtgnoojbbicbklaaRows
import Derived.WalkKit
import Derived.WalkSmall
namespace Go.Proofs.Ytgnoojbbicbklaa
open Go.RowKit

theorem one1_text {W : World} {g a : Nat} (ha : a ≤ 255) (h : BlockIs W g 5 [.int .u8 (a : Int)]) : (convert 22 9 (.slice (some ⟨g, 0, none⟩) 1 1)).run Try.prog W = .ok (.string ⟨#[UInt8.ofNat a]⟩) W :=
  run_convert_bytes_back _ 22 9 5 ⟨g, 0, none⟩ 1 [UInt8.ofNat a] Try.underlying22 Try.underlying5 Try.underlying9 fun j hj => by
    have ea : ((UInt8.ofNat a).toNat : Int) = (a : Int) := by rw [UInt8.toNat_ofNat']; omega
    have h0 := h.cell (j := 0) rfl
    rw [← ea] at h0
    simp at hj
    subst hj
    exact h0
end Go.Proofs.Ytgnoojbbicbklaa
