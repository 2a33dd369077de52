/-
  Slots that are appended to an empty list of the call's own.
  What RingNew answers, in memory of the call's own.
-/
import Derived.Test.YtjcphahbplmmdaaJoint2
import Derived.Test.YtjcphahbplmmdaaJoint1
import Derived.Test.YtjcphahbplmmdaaJoint6
namespace Go.Proofs.Ytjcphahbplmmdaa
open Go.RowKit

/-- slots behind an empty list -/
theorem append_slots {W : World} {g0 : Nat} (h0 : BlockIs W g0 52 []) {vo : Option Addr} {L : List SlotD} {c : Nat} (hL : L.length ≤ 1048577) (hE : SlotsAt W vo L) :
    ∃ v' W', (Builtin.append_ #[24, 24] 24 #[.slice (some ⟨g0, 0, none⟩) 0 0, .slice vo L.length c]).run Try.prog W = .ok v' W' ∧ W'.ownsRow g0 52 2 v' L.length (slotCells L) ∧ W.grownBy W' (some g0) := by
  obtain ⟨i0, hi, hz0, hz1, hz2⟩ := info_parts toSlot_info
  have hown : W.ownsRow g0 52 2 (.slice (some ⟨g0, 0, none⟩) 0 0) 0 [] := ⟨by simp, Or.inr ⟨g0, 0, #[], rfl, Nat.le_refl _, h0, by omega, by unfold maxLen; omega, by simp, by simp⟩⟩
  cases vo with
  | some ad =>
    have hnews : ∀ j u, (slotCells L)[j]? = some u → W.cell? (ad.add j) = some u := by
      by_cases hne : L = []
      · subst hne
        intro j u hu
        simp [slotCells] at hu
      · obtain ⟨b, off, e, hc⟩ := hE hne
        cases e
        exact slots_cells hc
    obtain ⟨v', W', hr, h2, h3, _⟩ := run_append_own (P := Try.prog) W g0 24 24 52 i0 _ 2 24 Try.underlying24 hi hz0 hz1 hz2 rfl (by decide) _ 0 [] hown ad L.length c (slotCells L) (slotCells_length L) hnews (slotCells_one L) (by unfold maxLen; omega) (by omega) (Nat.le_of_lt h0.lt)
    rw [Nat.zero_add, List.nil_append] at h2
    exact ⟨v', W', hr, h2, h3⟩
  | none =>
    have hne : L = [] := by
      by_cases hne : L = []
      · exact hne
      · obtain ⟨b, off, e, _⟩ := hE hne
        cases e
    subst hne
    refine ⟨.slice (some ⟨g0, 0, none⟩) 0 0, W, ?_, hown, World.grownBy.refl _ _⟩
    simp [Builtin.append_, run_underlying Try.underlying24, sizeOf, typeInfo, hi, Builtin.lenOf, Builtin.firstCells, storeCells]
/-- slots in a row of the call's own -/
theorem own_of_slotRow {w : World} {base : Nat} {v : Value} {l : List SlotD} (h : w.ownsRow base 52 2 v l.length (slotCells l)) : ∃ va vc, v = .slice va l.length vc ∧ l.length ≤ vc ∧ OwnAt w 52 (slotCells l) l.length va base w.heap.size := by
  obtain ⟨_, (⟨rfl, h0⟩ | ⟨g, cap, cur, rfl, hb, hg, hc, _, _, ht⟩)⟩ := h
  · exact ⟨none, 0, by rw [h0], by omega, Or.inl h0⟩
  · have hcur : cur.toList = slotCells l ++ cur.toList.drop (l.length * 2) := by rw [← ht, List.take_append_drop]
    have hk : BlockIs w g 52 (slotCells l ++ cur.toList.drop (l.length * 2)) := by
      unfold BlockIs
      rw [hg, ← hcur]
    exact ⟨_, _, rfl, hc, Or.inr ⟨g, _, rfl, hb, hk.lt, hk⟩⟩
end Go.Proofs.Ytjcphahbplmmdaa

namespace Go.Proofs.Ytjcphahbplmmdaa
open Go.RowKit

def newOk (n : Int) : Bool := decide (1 ≤ n) && decide (n ≤ 8)
def newL (n : Int) : List SlotD := if newOk n then List.replicate n.toNat slot0 else []
theorem newL_length_le (n : Int) : (newL n).length ≤ 8 := by
  unfold newL newOk
  split
  · rename_i h
    simp at h
    rw [List.length_replicate]; omega
  · simp
def NewDid (n : Int) (w : World) (e : Ending) (w' : World) : Prop :=
  ∃ va vc, e = .returned (.tuple #[.agg #[.slice va (newL n).length vc, .int .i64 0, .int .i64 0], .bool (newOk n)]) ∧ (newL n).length ≤ vc ∧ OwnAt w' 52 (slotCells (newL n)) (newL n).length va w.heap.size w'.heap.size ∧ Below w.heap.size w w'
theorem new_no {n : Int} {w w' : World} (h : newOk n = false) (hb : Below w.heap.size w w') : NewDid n w (.returned (.tuple #[.agg #[.slice none 0 0, .int .i64 0, .int .i64 0], .bool false])) w' := by
  unfold NewDid newL
  rw [h]
  exact ⟨none, 0, rfl, Nat.le_refl _, Or.inl rfl, hb⟩
theorem made_zero (k : Nat) : (madeCells (Value.agg #[.int .i64 0, .string ByteArray.empty]).cells (k * 2)).toList = slotCells (List.replicate k slot0) := by
  apply List.ext_getElem?
  intro j
  by_cases hj : j < k * 2
  · have h1 : j / 2 < (List.replicate k slot0).length := by rw [List.length_replicate]; omega
    have hr := row_at slotEnc 2 (fun _ => rfl) (List.replicate k slot0) [] (j / 2) (j % 2) h1 (Nat.mod_lt _ (by omega))
    rw [List.append_nil, show j / 2 * 2 + j % 2 = j by omega, List.getElem_replicate] at hr
    rw [show slotCells (List.replicate k slot0) = (List.replicate k slot0).flatMap slotEnc from rfl, hr]
    rcases (by omega : j % 2 = 0 ∨ j % 2 = 1) with e | e <;> simp [madeCells, hj, e, slotEnc, slot0, Value.cells]
  · rw [List.getElem?_eq_none (by simp [madeCells]; omega), List.getElem?_eq_none (by rw [slotCells_length, List.length_replicate]; omega)]
theorem new_yes {k g : Nat} {w w' : World} (h : newOk k = true) (hg : w.heap.size ≤ g) (hk : BlockIs w' g 52 (slotCells (List.replicate k slot0))) (hb : Below w.heap.size w w') : NewDid k w (.returned (.tuple #[.agg #[.slice (some ⟨g, 0, none⟩) k k, .int .i64 0, .int .i64 0], .bool true])) w' := by
  unfold NewDid newL
  rw [h, if_pos rfl, Int.toNat_natCast, List.length_replicate]
  exact ⟨_, _, rfl, Nat.le_refl _, Or.inr ⟨g, [], rfl, hg, hk.lt, by rw [List.append_nil]; exact hk⟩, hb⟩
end Go.Proofs.Ytjcphahbplmmdaa
