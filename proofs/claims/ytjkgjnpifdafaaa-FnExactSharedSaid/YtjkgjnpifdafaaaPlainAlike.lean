/-
  Lists of entries that begin alike; nothing of the program stands here.
-/
import Derived.Test.YtjkgjnpifdafaaaPlainLog
namespace Go.Proofs.Ytjkgjnpifdafaaa
open Go.RowKit

/-- two entries are the same -/
def sameEnt (a b : EntD) : Bool := decide (a.term = b.term ∧ a.kind = b.kind ∧ a.data = b.data)
theorem sameEnt_iff {a b : EntD} : sameEnt a b = true ↔ a.term = b.term ∧ a.kind = b.kind ∧ a.data = b.data := by simp [sameEnt]
theorem alike_nil (M : List EntD) : alike [] M = 0 := by simp [alike]
theorem alike_nil' (L : List EntD) : alike L [] = 0 := by cases L <;> simp [alike]
theorem alike_step {L M : List EntD} {k j : Nat} (hk : k < L.length) (hj : j < M.length) (h : sameEnt L[k] M[j] = true) : alike (L.drop k) (M.drop j) = 1 + alike (L.drop (k + 1)) (M.drop (j + 1)) := by
  rw [List.drop_eq_getElem_cons hk, List.drop_eq_getElem_cons hj, alike, if_pos (sameEnt_iff.1 h)]
  omega
theorem alike_stop {L M : List EntD} {k j : Nat} (hk : k < L.length) (hj : j < M.length) (h : ¬ sameEnt L[k] M[j] = true) : alike (L.drop k) (M.drop j) = 0 := by
  rw [List.drop_eq_getElem_cons hk, List.drop_eq_getElem_cons hj, alike, if_neg (fun q => h (sameEnt_iff.2 q))]
theorem alike_le (L M : List EntD) : alike L M ≤ L.length := by
  induction L generalizing M with
  | nil => rw [alike_nil]; omega
  | cons a L ih =>
    cases M with
    | nil => rw [alike_nil']; omega
    | cons b M =>
      rw [alike]
      split
      · have := ih M
        simp only [List.length_cons]
        omega
      · omega
/-- the logs' answers, case by case -/
theorem sharedAns_bad {s t s' t' : Int} {l l' : List EntD} (h : ¬ (logOk s t l = true ∧ logOk s' t' l' = true)) : sharedAns s t l s' t' l' = -1 := by
  rw [sharedAns, if_neg h]
theorem sharedAns_no {s t s' t' : Int} {l l' : List EntD} (h : logOk s t l = true) (h' : logOk s' t' l' = true) (hn : ¬ (logHas s l.length (max s s') = true ∧ logHas s' l'.length (max s s') = true ∧ logTerm s t l (max s s') = logTerm s' t' l' (max s s'))) : sharedAns s t l s' t' l' = -1 := by
  rw [sharedAns, if_pos ⟨h, h'⟩, if_neg hn]
theorem sharedAns_yes {s t s' t' : Int} {l l' : List EntD} (h : logOk s t l = true) (h' : logOk s' t' l' = true) (hn : logHas s l.length (max s s') = true ∧ logHas s' l'.length (max s s') = true ∧ logTerm s t l (max s s') = logTerm s' t' l' (max s s')) : sharedAns s t l s' t' l' = max s s' + alike (l.drop (max s s' - s).toNat) (l'.drop (max s s' - s').toNat) := by
  rw [sharedAns, if_pos ⟨h, h'⟩, if_pos hn]
end Go.Proofs.Ytjkgjnpifdafaaa
