/-
  A text of three bytes, out of a row that was just laid.
-/
import Derived.Test.YtneociicjidcnaaDoorPlainCell
import Derived.Test.YtneociicjidcnaaDoorRows
import Derived.WalkKit
namespace Go.Proofs.YtneociicjidcnaaDoor
open Go.RowKit

theorem head3_text {W : World} {g a b c : Nat} (ha : a ≤ 255) (hb : b ≤ 255) (hc : c ≤ 255) (h : BlockIs W g 5 [.int .u8 (a : Int), .int .u8 (b : Int), .int .u8 (c : Int)]) : (convert 22 9 (.slice (some ⟨g, 0, none⟩) 3 3)).run Tryd.prog W = .ok (.string (head3 a b c)) W :=
  run_convert_bytes_back _ 22 9 5 ⟨g, 0, none⟩ 3 [UInt8.ofNat a, UInt8.ofNat b, UInt8.ofNat c] Tryd.underlying22 Tryd.underlying5 Tryd.underlying9 fun j hj => by
    have ea : ((UInt8.ofNat a).toNat : Int) = (a : Int) := by rw [UInt8.toNat_ofNat']; omega
    have eb : ((UInt8.ofNat b).toNat : Int) = (b : Int) := by rw [UInt8.toNat_ofNat']; omega
    have ec : ((UInt8.ofNat c).toNat : Int) = (c : Int) := by rw [UInt8.toNat_ofNat']; omega
    have h0 := h.cell (j := 0) rfl
    have h1 := h.cell (j := 1) rfl
    have h2 := h.cell (j := 2) rfl
    rw [← ea] at h0
    rw [← eb] at h1
    rw [← ec] at h2
    simp at hj
    match j, hj with
    | 0, _ => exact h0
    | 1, _ => exact h1
    | 2, _ => exact h2
theorem head3_new (W : World) {a b c : Nat} (ha : a ≤ 255) (hb : b ≤ 255) (hc : c ≤ 255) : (convert 22 9 (.slice (some ⟨W.heap.size, 0, none⟩) 3 3)).run Tryd.prog (W.alloc (.cells #[.int .u8 (a : Int), .int .u8 (b : Int), .int .u8 (c : Int)] 5)) = .ok (.string (head3 a b c)) (W.alloc (.cells #[.int .u8 (a : Int), .int .u8 (b : Int), .int .u8 (c : Int)] 5)) :=
  head3_text ha hb hc (heap_alloc_new W _)
end Go.Proofs.YtneociicjidcnaaDoor
