/-
  A text of two bytes, out of a row that was just laid.
-/
import Derived.Test.YtgnoojbbicbklaaPlainDgram
import Derived.Test.YtgnoojbbicbklaaRows
import Derived.WalkKit
import Derived.WalkSmall
namespace Go.Proofs.Ytgnoojbbicbklaa
open Go.RowKit

def two2 (a b : Nat) : ByteArray := ⟨#[UInt8.ofNat a, UInt8.ofNat b]⟩
theorem two2_text {W : World} {g a b : Nat} (ha : a ≤ 255) (hb : b ≤ 255) (h : BlockIs W g 5 [.int .u8 (a : Int), .int .u8 (b : Int)]) : (convert 22 9 (.slice (some ⟨g, 0, none⟩) 2 2)).run Try.prog W = .ok (.string (two2 a b)) W :=
  run_convert_bytes_back _ 22 9 5 ⟨g, 0, none⟩ 2 [UInt8.ofNat a, UInt8.ofNat b] Try.underlying22 Try.underlying5 Try.underlying9 fun j hj => by
    have ea : ((UInt8.ofNat a).toNat : Int) = (a : Int) := by rw [UInt8.toNat_ofNat']; omega
    have eb : ((UInt8.ofNat b).toNat : Int) = (b : Int) := by rw [UInt8.toNat_ofNat']; omega
    have h0 := h.cell (j := 0) rfl
    have h1 := h.cell (j := 1) rfl
    rw [← ea] at h0
    rw [← eb] at h1
    simp at hj
    match j, hj with
    | 0, _ => exact h0
    | 1, _ => exact h1
theorem two2_new (W : World) {a b : Nat} (ha : a ≤ 255) (hb : b ≤ 255) : (convert 22 9 (.slice (some ⟨W.heap.size, 0, none⟩) 2 2)).run Try.prog (W.alloc (.cells #[.int .u8 (a : Int), .int .u8 (b : Int)] 5)) = .ok (.string (two2 a b)) (W.alloc (.cells #[.int .u8 (a : Int), .int .u8 (b : Int)] 5)) :=
  two2_text ha hb (heap_alloc_new W _)
end Go.Proofs.Ytgnoojbbicbklaa
