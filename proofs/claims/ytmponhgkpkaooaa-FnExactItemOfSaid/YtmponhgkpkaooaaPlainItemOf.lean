/-
  The first item of a Key; nothing of the program stands here.
-/
import Derived.Test.YtmponhgkpkaooaaDataItem
namespace Go.Proofs.Ytmponhgkpkaooaa
open Go.RowKit

/-- the first one of a Key, or none -/
def itemOf (l : List ItemD) (key : ByteArray) : ItemD × Bool :=
  match l.find? (fun e => e.key.toList == key.toList) with
  | some e => (e, true)
  | none => (⟨⟨#[]⟩, ⟨#[]⟩, 0⟩, false)
theorem itemOf_none (l : List ItemD) (key : ByteArray) (h : ∀ j (hj : j < l.length), (l[j].key.toList == key.toList) = false) : itemOf l key = (⟨⟨#[]⟩, ⟨#[]⟩, 0⟩, false) := by
  have : l.find? (fun e => e.key.toList == key.toList) = none := by
    rw [List.find?_eq_none]
    intro x hx
    obtain ⟨j, hj, rfl⟩ := List.getElem_of_mem hx
    rw [h j hj]
    exact Bool.false_ne_true
  rw [itemOf, this]
theorem itemOf_here (l : List ItemD) (key : ByteArray) (k : Nat) (hk : k < l.length) (h : ∀ j (hj : j < k), (l[j].key.toList == key.toList) = false) (hh : (l[k].key.toList == key.toList) = true) : itemOf l key = (l[k], true) := by
  have : l.find? (fun e => e.key.toList == key.toList) = some l[k] := by
    rw [List.find?_eq_some_iff_getElem]
    exact ⟨hh, k, hk, rfl, fun j hj => by rw [h j hj]; rfl⟩
  rw [itemOf, this]
end Go.Proofs.Ytmponhgkpkaooaa
