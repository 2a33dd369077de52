/-
  What the power leaves of a disk, as plain data.
-/
import Derived.Test.YthkfgiilbkjojaaPlainDisk
import Derived.Test.YthkfgiilbkjojaaPlainInts
namespace Go.Proofs.Ythkfgiilbkjojaa
open Go.RowKit

/-- how much is left of a file -/
def leftOf (f : FileD) (n : Int) : Int := if (if (f.text.size : Int) < n then (f.text.size : Int) else n) < f.kept then f.kept else (if (f.text.size : Int) < n then (f.text.size : Int) else n)
def lostOf (f : FileD) (n : Int) : FileD := ⟨f.name, f.text.extract 0 (leftOf f n).toNat, leftOf f n⟩
def loseTo (l : List FileD) (zs : List Int) : Nat → List FileD
  | 0 => []
  | k + 1 => loseTo l zs k ++ match l[k]? with
    | none => []
    | some f => [lostOf f (zs.getD k 0)]
theorem loseTo_step {l : List FileD} {zs : List Int} {k : Nat} (hk : k < l.length) : loseTo l zs (k + 1) = loseTo l zs k ++ [lostOf l[k] (zs.getD k 0)] := by
  rw [loseTo, List.getElem?_eq_getElem hk]
theorem loseTo_length {l : List FileD} {zs : List Int} {k : Nat} (hk : k ≤ l.length) : (loseTo l zs k).length = k := by
  induction k with
  | zero => rfl
  | succ k ih => rw [loseTo_step (by omega), List.length_append, ih (by omega)]; rfl
theorem diskOk_kept {l : List FileD} (h : diskOk l = true) {k : Nat} (hk : k < l.length) : 0 ≤ l[k].kept ∧ l[k].kept ≤ l[k].text.size ∧ l[k].text.size ≤ 20000 := by
  rw [diskOk, Bool.and_eq_true] at h
  have h2 := rightTo_down h.2 (show k + 1 ≤ l.length by omega)
  rw [rightTo_step hk] at h2
  simp only [Bool.and_eq_true, fileOk, within, decide_eq_true_eq] at h2
  omega
/-- a right disk is small -/
theorem diskOk_small {l : List FileD} (h : diskOk l = true) : ∀ f ∈ l, f.name.size ≤ 1048576 ∧ f.text.size ≤ 1048576 := by
  intro f hf
  obtain ⟨k, hk, rfl⟩ := List.getElem_of_mem hf
  rw [diskOk, Bool.and_eq_true] at h
  have h2 := rightTo_down h.2 (show k + 1 ≤ l.length by omega)
  rw [rightTo_step hk] at h2
  simp only [Bool.and_eq_true, fileOk, nameOk, within, decide_eq_true_eq] at h2
  omega
end Go.Proofs.Ythkfgiilbkjojaa
