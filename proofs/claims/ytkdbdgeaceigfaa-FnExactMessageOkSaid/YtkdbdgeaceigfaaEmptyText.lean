/-
  When a text is empty; nothing of the program stands here.
-/
import Derived.Test.YtkdbdgeaceigfaaPlainIn
namespace Go.Proofs.Ytkdbdgeaceigfaa
open Go.RowKit

theorem empty_text (s : ByteArray) : (s.toList == []) = decide (s.size = 0) := by
  rw [ByteArray.toList_eq]
  by_cases h : s.size = 0
  · have : s.data.toList = [] := List.eq_nil_of_length_eq_zero (by simpa using h)
    simp [this, h]
  · have : (s.data.toList == []) = false := by
      rw [beq_eq_false_iff_ne]
      intro e
      exact h (by simpa using congrArg List.length e)
    rw [this]
    simp [h]
end Go.Proofs.Ytkdbdgeaceigfaa
