/-
  What RingNew answers, in memory of the call's own.
-/
import Derived.Test.YtbajffpkfjkolaaPlainWheel
import Derived.Test.YtbajffpkfjkolaaPutSlot
import Derived.Test.YtbajffpkfjkolaaOwnAt
namespace Go.Proofs.Ytbajffpkfjkolaa
open Go.RowKit

def newOk (n : Int) : Bool := decide (1 ≤ n) && decide (n ≤ 8)
def newL (n : Int) : List SlotD := if newOk n then List.replicate n.toNat slot0 else []
theorem newL_length_le (n : Int) : (newL n).length ≤ 8 := by
  unfold newL newOk
  split
  · rename_i h
    simp at h
    rw [List.length_replicate]; omega
  · simp
def NewDid (n : Int) (w : World) (e : Ending) (w' : World) : Prop :=
  ∃ va vc, e = .returned (.tuple #[.agg #[.slice va (newL n).length vc, .int .i64 0, .int .i64 0], .bool (newOk n)]) ∧ (newL n).length ≤ vc ∧ OwnAt w' 42 (slotCells (newL n)) (newL n).length va w.heap.size w'.heap.size ∧ Below w.heap.size w w'
theorem new_no {n : Int} {w w' : World} (h : newOk n = false) (hb : Below w.heap.size w w') : NewDid n w (.returned (.tuple #[.agg #[.slice none 0 0, .int .i64 0, .int .i64 0], .bool false])) w' := by
  unfold NewDid newL
  rw [h]
  exact ⟨none, 0, rfl, Nat.le_refl _, Or.inl rfl, hb⟩
theorem made_zero (k : Nat) : (madeCells (Value.agg #[.int .i64 0, .string ByteArray.empty]).cells (k * 2)).toList = slotCells (List.replicate k slot0) := by
  apply List.ext_getElem?
  intro j
  by_cases hj : j < k * 2
  · have h1 : j / 2 < (List.replicate k slot0).length := by rw [List.length_replicate]; omega
    have hr := row_at slotEnc 2 (fun _ => rfl) (List.replicate k slot0) [] (j / 2) (j % 2) h1 (Nat.mod_lt _ (by omega))
    rw [List.append_nil, show j / 2 * 2 + j % 2 = j by omega, List.getElem_replicate] at hr
    rw [show slotCells (List.replicate k slot0) = (List.replicate k slot0).flatMap slotEnc from rfl, hr]
    rcases (by omega : j % 2 = 0 ∨ j % 2 = 1) with e | e <;> simp [madeCells, hj, e, slotEnc, slot0, Value.cells]
  · rw [List.getElem?_eq_none (by simp [madeCells]; omega), List.getElem?_eq_none (by rw [slotCells_length, List.length_replicate]; omega)]
theorem new_yes {k g : Nat} {w w' : World} (h : newOk k = true) (hg : w.heap.size ≤ g) (hk : BlockIs w' g 42 (slotCells (List.replicate k slot0))) (hb : Below w.heap.size w w') : NewDid k w (.returned (.tuple #[.agg #[.slice (some ⟨g, 0, none⟩) k k, .int .i64 0, .int .i64 0], .bool true])) w' := by
  unfold NewDid newL
  rw [h, if_pos rfl, Int.toNat_natCast, List.length_replicate]
  exact ⟨_, _, rfl, Nat.le_refl _, Or.inr ⟨g, [], rfl, hg, hk.lt, by rw [List.append_nil]; exact hk⟩, hb⟩
end Go.Proofs.Ytbajffpkfjkolaa
