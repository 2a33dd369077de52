/-
  What CutDgram answers: parts in memory of the call's own.
-/
import Derived.Test.YtpknpodmoeaggabPlainCut
import Derived.Test.YtpknpodmoeaggabRowDgram
namespace Go.Proofs.Ytpknpodmoeaggab
open Go.RowKit

def CutDid (A : List DgramD) (ok : Bool) (w : World) (e : Ending) (w' : World) : Prop :=
  ∃ va vc, e = .returned (.tuple #[.slice va A.length vc, .bool ok]) ∧ A.length ≤ vc ∧ OwnAt w' 23 (dgramCells A) A.length va w.heap.size w'.heap.size ∧ Below w.heap.size w w'
theorem at_of_row {w : World} {base size n : Nat} {t : TypeId} {va : Option Addr} {vc : Nat} {cs : List Value} (h : w.ownsRow base t size (.slice va n vc) n cs) : n ≤ vc ∧ OwnAt w t cs n va base w.heap.size := by
  rcases h.2 with ⟨hv, h0⟩ | ⟨g, cp, cur, hv, hb, hh, hle, _, _, ht⟩
  · exact ⟨by omega, Or.inl h0⟩
  · simp only [Value.slice.injEq] at hv
    obtain ⟨rfl, _, rfl⟩ := hv
    have hcur : cur.toList = cs ++ cur.toList.drop (n * size) := by rw [← ht, List.take_append_drop]
    have hk : BlockIs w g t (cs ++ cur.toList.drop (n * size)) := by unfold BlockIs; rw [hh, ← hcur]
    exact ⟨hle, Or.inr ⟨g, _, rfl, hb, hk.lt, hk⟩⟩
theorem OwnAt.dgrams {w : World} {l : List DgramD} {va : Option Addr} {lo hi : Nat} (h : OwnAt w 23 (dgramCells l) l.length va lo hi) : DgramsAt w va l := by
  rcases h with h | ⟨g, r, rfl, _, _, h⟩
  · exact fun h0 => absurd (List.length_eq_zero_iff.1 h) h0
  · exact dgramsAt_of h
theorem cutD_no {d : DgramD} {size : Int} (h : cutOk d size = false) : cutD d size = [] := by rw [cutD, if_neg (by simp [h])]
theorem cutD_yes {d : DgramD} {size : Int} (h : cutOk d size = true) : cutD d size = cutTo d (size.toNat / 8 * 8) (nParts d (size.toNat / 8 * 8)) := by rw [cutD, if_pos h]
theorem cutD_few (d : DgramD) (size : Int) : (cutD d size).length ≤ 20 := by
  cases h : cutOk d size with
  | false => rw [cutD_no h]; exact Nat.zero_le _
  | true =>
    rw [cutD_yes h, cutTo_length]
    simp only [cutOk, Bool.and_eq_true, within_iff] at h
    have := dgramOk_bd h.1
    exact nParts_le (by omega) (by omega)
end Go.Proofs.Ytpknpodmoeaggab
