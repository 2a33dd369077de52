/-
  Lates in a row of the call's own.
-/
import Derived.Test.YthbdkfdcbglpoaaDataLate
import Derived.Test.YthbdkfdcbglpoaaOwnAt
namespace Go.Proofs.Ythbdkfdcbglpoaa
open Go.RowKit

theorem OwnAt.lates {w : World} {l : List LateD} {va : Option Addr} {lo hi : Nat} (h : OwnAt w 60 (lateCells l) l.length va lo hi) : LatesAt w va l := by
  rcases h with h | ⟨g, r, rfl, _, _, h⟩
  · intro h0
    exact absurd (List.length_eq_zero_iff.1 h) h0
  · exact latesAt_of h
theorem own_of_lates {w : World} {base g : Nat} {l : List LateD} (hb : base ≤ g) (hk : BlockIs w g 60 (lateCells l)) : OwnAt w 60 (lateCells l) l.length (some ⟨g, 0, none⟩) base w.heap.size :=
  Or.inr ⟨g, [], rfl, hb, hk.lt, by rw [List.append_nil]; exact hk⟩
end Go.Proofs.Ythbdkfdcbglpoaa
