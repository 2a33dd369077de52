/-
  Entries in a row of the call's own.
-/
import Derived.Test.YtjkgjnpifdafaaaOwnAt
import Derived.Test.YtjkgjnpifdafaaaEntData
namespace Go.Proofs.Ytjkgjnpifdafaaa
open Go.RowKit

theorem OwnAt.ents {w : World} {l : List EntD} {va : Option Addr} {lo hi : Nat} (h : OwnAt w 35 (entCells l) l.length va lo hi) : EntsAt w va l := by
  rcases h with h | ⟨g, r, rfl, _, _, h⟩
  · intro h0
    exact absurd (List.length_eq_zero_iff.1 h) h0
  · exact entsAt_of h
theorem own_of_ents {w : World} {base g : Nat} {l : List EntD} (hb : base ≤ g) (hk : BlockIs w g 35 (entCells l)) : OwnAt w 35 (entCells l) l.length (some ⟨g, 0, none⟩) base w.heap.size :=
  Or.inr ⟨g, [], rfl, hb, hk.lt, by rw [List.append_nil]; exact hk⟩
/-- entries in a row of the call's own -/
theorem own_of_row {w : World} {base : Nat} {v : Value} {l : List EntD} (h : w.ownsRow base 35 3 v l.length (entCells l)) : ∃ va vc, v = .slice va l.length vc ∧ l.length ≤ vc ∧ OwnAt w 35 (entCells l) l.length va base w.heap.size := by
  obtain ⟨_, (⟨rfl, h0⟩ | ⟨g, cap, cur, rfl, hb, hg, hc, _, _, ht⟩)⟩ := h
  · exact ⟨none, 0, by rw [h0], by omega, Or.inl h0⟩
  · have hcur : cur.toList = entCells l ++ cur.toList.drop (l.length * 3) := by rw [← ht, List.take_append_drop]
    have hk : BlockIs w g 35 (entCells l ++ cur.toList.drop (l.length * 3)) := by
      unfold BlockIs
      rw [hg, ← hcur]
    exact ⟨_, _, rfl, hc, Or.inr ⟨g, _, rfl, hb, hk.lt, hk⟩⟩
end Go.Proofs.Ytjkgjnpifdafaaa
