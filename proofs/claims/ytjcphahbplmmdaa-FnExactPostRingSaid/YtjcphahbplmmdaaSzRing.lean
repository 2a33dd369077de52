/-
  The walk of laws.szRing: a ring's letters are counted.
-/
import Derived.Test.YtjcphahbplmmdaaSzSlot
namespace Go.Proofs.Ytjcphahbplmmdaa
open Go.RowKit

theorem szRing_any (s t : Int) (ao : Option Addr) (l : List SlotD) (cap : Nat) (n : Int) (h0 : 0 ≤ n) (h1 : n ≤ 1048576) (hl : l.length ≤ 9223372036854775807) (hf : SlotsFit l) (w : World) (ha : SlotsAt w ao l) :
    Calls Try.prog 26 #[.agg #[.slice ao l.length cap, .int .i64 s, .int .i64 t], .int .i64 n] w fun e w' => ((n - l.length - slotBulk l < 0 ∧ e = .returned (.int .i64 (-1))) ∨ (0 ≤ n - l.length - slotBulk l ∧ e = .returned (.int .i64 (n - l.length - slotBulk l)))) ∧ Below w.heap.size w w' := by
  have C := hid (fun w ha => szSlotS_any ao l cap n h0 h1 hl hf w ha)
  have HA := hid ha
  have HB := hid (below_more (Below.refl w.heap.size w) (.cells #[.slice ao l.length cap, .int .i64 s, .int .i64 t] 43))
  clear ha hf
  go_enter Try.func26, Try.ntmps26
  go_wp2_with fail
  refine (C.out _ (HA.out.on HB.out)).mono ?_
  rintro e w1 ⟨(⟨hneg, rfl⟩ | ⟨hnn, rfl⟩), b1⟩
  · have B1 := hid (below_via HB.out b1)
    clear b1 C
    go_wp2
    go_ret
    exact ⟨Or.inl ⟨hneg, rfl⟩, B1.out⟩
  · have B1 := hid (below_via HB.out b1)
    clear b1 C
    go_wp2
    go_ret
    exact ⟨Or.inr ⟨hnn, rfl⟩, B1.out⟩
end Go.Proofs.Ytjcphahbplmmdaa
