/-
  Plain facts on files of which all is kept; nothing of the program stands here.
-/
import Derived.Test.YthkfgiilbkjojabPlainDisk
namespace Go.Proofs.Ythkfgiilbkjojab
open Go.RowKit

/-- all of the first k files is kept -/
def keptTo (l : List FileD) : Nat → Bool
  | 0 => true
  | k + 1 => keptTo l k && match l[k]? with
    | none => true
    | some f => !decide (f.kept < f.text.size)
def allKept (l : List FileD) : Bool := diskOk l && keptTo l l.length
theorem keptTo_step {l : List FileD} {k : Nat} (hk : k < l.length) : keptTo l (k + 1) = (keptTo l k && !decide (l[k].kept < l[k].text.size)) := by
  rw [keptTo, List.getElem?_eq_getElem hk]
theorem keptTo_down {l : List FileD} {n k : Nat} (h : keptTo l n = true) (hk : k ≤ n) : keptTo l k = true := by
  induction n with
  | zero => obtain rfl : k = 0 := by omega
            rfl
  | succ n ih =>
    rcases Nat.lt_or_ge k (n + 1) with q | q
    · rw [keptTo, Bool.and_eq_true] at h
      exact ih h.1 (by omega)
    · obtain rfl : k = n + 1 := by omega
      exact h
theorem not_allKept {l : List FileD} {k : Nat} (hk : k < l.length) (h : l[k].kept < l[k].text.size) : allKept l = false := by
  cases hd : allKept l with
  | false => rfl
  | true =>
    rw [allKept, Bool.and_eq_true] at hd
    have := keptTo_down hd.2 (show k + 1 ≤ l.length by omega)
    rw [keptTo_step hk] at this
    simp at this
    omega
end Go.Proofs.Ythkfgiilbkjojab
