/-
  How many early texts an answer has; nothing of the program stands here.
-/
import Derived.Test.YthbdkfdcbglpoaaPlainStr
namespace Go.Proofs.Ythbdkfdcbglpoaa
open Go.RowKit

theorem shutD_late (d : StrD) : (shutD d).late.length = d.late.length := by unfold shutD; split <;> rfl
theorem writeD_late (d : StrD) (s : ByteArray) : (writeD d s).late.length = d.late.length := by unfold writeD; split <;> rfl
end Go.Proofs.Ythbdkfdcbglpoaa
