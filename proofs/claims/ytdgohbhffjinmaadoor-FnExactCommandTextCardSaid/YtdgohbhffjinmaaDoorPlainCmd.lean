/-
  A command that is right; nothing of the program stands here.
-/
import Derived.Test.YtdgohbhffjinmaaDoorPlainIn
import Derived.Test.YtdgohbhffjinmaaDoorDataCommand
namespace Go.Proofs.YtdgohbhffjinmaaDoor
open Go.RowKit

def commandOk (d : CommandD) : Bool :=
  within d.token 0 1000000 && (within d.seq 0 1000000 && (within d.op 1 5 &&
    (if d.op = 1 then decide (d.token = 0) && (decide (d.seq = 0) && (decide (d.key.size = 0) && (decide (d.val.size = 0) && decide (d.ver = 0))))
      else within (d.key.size : Int) 1 8 && (decide ((d.val.size : Int) ≤ 20) &&
        (if d.op = 2 then decide (d.ver = 0) else if d.op = 5 then within d.ver 1 1000000000 else decide (d.val.size = 0) && decide (d.ver = 0))))))

theorem empty_text (s : ByteArray) : (s.toList == []) = decide (s.size = 0) := by
  rw [ByteArray.toList_eq]
  by_cases h : s.size = 0
  · have : s.data.toList = [] := List.eq_nil_of_length_eq_zero (by simpa using h)
    simp [this, h]
  · have : (s.data.toList == []) = false := by
      rw [beq_eq_false_iff_ne]
      intro e
      exact h (by simpa using congrArg List.length e)
    rw [this]
    simp [h]
end Go.Proofs.YtdgohbhffjinmaaDoor
