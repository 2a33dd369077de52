/-
  Slots in a row of the call's own.
-/
import Derived.Test.YtbajffpkfjkolaaDataSlot
import Derived.Test.YtbajffpkfjkolaaOwnAt
namespace Go.Proofs.Ytbajffpkfjkolaa
open Go.RowKit

theorem OwnAt.slots {w : World} {l : List SlotD} {va : Option Addr} {lo hi : Nat} (h : OwnAt w 42 (slotCells l) l.length va lo hi) : SlotsAt w va l := by
  rcases h with h | ⟨g, r, rfl, _, _, h⟩
  · intro h0
    exact absurd (List.length_eq_zero_iff.1 h) h0
  · exact slotsAt_of h
theorem own_of_slots {w : World} {base g : Nat} {l : List SlotD} (hb : base ≤ g) (hk : BlockIs w g 42 (slotCells l)) : OwnAt w 42 (slotCells l) l.length (some ⟨g, 0, none⟩) base w.heap.size :=
  Or.inr ⟨g, [], rfl, hb, hk.lt, by rw [List.append_nil]; exact hk⟩
end Go.Proofs.Ytbajffpkfjkolaa
