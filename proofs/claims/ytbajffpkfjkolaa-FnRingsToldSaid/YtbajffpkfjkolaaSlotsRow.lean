/-
  Slots that are appended to an empty list of the call's own.
-/
import Derived.Test.YtbajffpkfjkolaaPutSlot
import Derived.Test.YtbajffpkfjkolaaOwnAt
import Derived.Test.YtbajffpkfjkolaaOwnSlot
import Derived.Test.YtbajffpkfjkolaaWheelMem
namespace Go.Proofs.Ytbajffpkfjkolaa
open Go.RowKit

/-- slots behind an empty list -/
theorem append_slots {W : World} {g0 : Nat} (h0 : BlockIs W g0 42 []) {vo : Option Addr} {L : List SlotD} {c : Nat} (hL : L.length ≤ 1048577) (hE : SlotsAt W vo L) :
    ∃ v' W', (Builtin.append_ #[24, 24] 24 #[.slice (some ⟨g0, 0, none⟩) 0 0, .slice vo L.length c]).run Try.prog W = .ok v' W' ∧ W'.ownsRow g0 42 2 v' L.length (slotCells L) ∧ W.grownBy W' (some g0) := by
  obtain ⟨i0, hi, hz0, hz1, hz2⟩ := info_parts toSlot_info
  have hown : W.ownsRow g0 42 2 (.slice (some ⟨g0, 0, none⟩) 0 0) 0 [] := ⟨by simp, Or.inr ⟨g0, 0, #[], rfl, Nat.le_refl _, h0, by omega, by unfold maxLen; omega, by simp, by simp⟩⟩
  cases vo with
  | some ad =>
    have hnews : ∀ j u, (slotCells L)[j]? = some u → W.cell? (ad.add j) = some u := by
      by_cases hne : L = []
      · subst hne
        intro j u hu
        simp [slotCells] at hu
      · obtain ⟨b, off, e, hc⟩ := hE hne
        cases e
        exact slots_cells hc
    obtain ⟨v', W', hr, h2, h3, _⟩ := run_append_own (P := Try.prog) W g0 24 24 42 i0 _ 2 24 Try.underlying24 hi hz0 hz1 hz2 rfl (by decide) _ 0 [] hown ad L.length c (slotCells L) (slotCells_length L) hnews (slotCells_one L) (by unfold maxLen; omega) (by omega) (Nat.le_of_lt h0.lt)
    rw [Nat.zero_add, List.nil_append] at h2
    exact ⟨v', W', hr, h2, h3⟩
  | none =>
    have hne : L = [] := by
      by_cases hne : L = []
      · exact hne
      · obtain ⟨b, off, e, _⟩ := hE hne
        cases e
    subst hne
    refine ⟨.slice (some ⟨g0, 0, none⟩) 0 0, W, ?_, hown, World.grownBy.refl _ _⟩
    simp [Builtin.append_, run_underlying Try.underlying24, sizeOf, typeInfo, hi, Builtin.lenOf, Builtin.firstCells, storeCells]
/-- slots in a row of the call's own -/
theorem own_of_slotRow {w : World} {base : Nat} {v : Value} {l : List SlotD} (h : w.ownsRow base 42 2 v l.length (slotCells l)) : ∃ va vc, v = .slice va l.length vc ∧ l.length ≤ vc ∧ OwnAt w 42 (slotCells l) l.length va base w.heap.size := by
  obtain ⟨_, (⟨rfl, h0⟩ | ⟨g, cap, cur, rfl, hb, hg, hc, _, _, ht⟩)⟩ := h
  · exact ⟨none, 0, by rw [h0], by omega, Or.inl h0⟩
  · have hcur : cur.toList = slotCells l ++ cur.toList.drop (l.length * 2) := by rw [← ht, List.take_append_drop]
    have hk : BlockIs w g 42 (slotCells l ++ cur.toList.drop (l.length * 2)) := by
      unfold BlockIs
      rw [hg, ← hcur]
    exact ⟨_, _, rfl, hc, Or.inr ⟨g, _, rfl, hb, hk.lt, hk⟩⟩
end Go.Proofs.Ytbajffpkfjkolaa
