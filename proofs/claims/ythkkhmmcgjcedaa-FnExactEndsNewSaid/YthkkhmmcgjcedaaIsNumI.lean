/-
  The walk of impl.isNum. (Beside SegOkI, which bears it too: no text imports both.)
-/
import Derived.Test.YthkkhmmcgjcedaaPlainSeg
import Derived.Laws.BitsAllLaws
import Derived.Test.YthkkhmmcgjcedaaRows
namespace Go.Proofs.Ythkkhmmcgjcedaa
open Go.RowKit

set_option maxRecDepth 1000000 in
theorem isNum_any (x : Int) (w : World) : Calls Try.prog 28 #[.int .i64 x] w fun e w' => e = .returned (.bool (within x 0 65535)) ∧ w' = w := by
  obtain ⟨p, hp⟩ : ∃ p, IntKind.u16.wrap x = p := ⟨_, rfl⟩
  have hp2 : 0 ≤ p ∧ p ≤ 65535 := by rw [IntKind.wrap_u16] at hp; omega
  obtain ⟨p1, p2⟩ := hp2
  have HR : Hid (within x 0 65535 = (p == x)) := by
    show _ = _
    rw [IntKind.wrap_u16] at hp
    rw [Bool.eq_iff_iff, within_iff, beq_iff_eq]
    omega
  go_enter Try.func28, Try.ntmps28
  go_wp2
  go_ret
  exact ⟨by rw [HR.out]; rfl, rfl⟩

end Go.Proofs.Ythkkhmmcgjcedaa
