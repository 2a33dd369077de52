/-
  Rows of a keep's structs, held against each other.
-/
import Derived.Test.YtohpkegbmhmjeaaGreatDoorJoint1
import Derived.Test.YtohpkegbmhmjeaaGreatDoorRows
import Derived.Laws.StructEq
import Derived.Deep.QuietTactic
import Derived.Deep.LoopGhost
import Derived.BigQuiet
namespace Go.Proofs.YtohpkegbmhmjeaaGreatDoor
open Go.RowKit

set_option maxRecDepth 100000 in
theorem neq_Session (p0 : Int) (p1 : Int) (p2 : ByteArray) (q0 : Int) (q1 : Int) (q2 : ByteArray) (w : World) : (binOp .neq 36 (.agg #[.int .i64 p0, .int .i64 p1, .string p2]) (.agg #[.int .i64 q0, .int .i64 q1, .string q2])).run Tryz.prog w = .ok (.bool (!sessEq ⟨p0, p1, p2⟩ ⟨q0, q1, q2⟩)) w := by
  rw [run_neq_struct, run_equalIn_agg (w := w) (d := 9999) (t := 36) (ht := by kernel_rfl) (hp := by kernel_rfl)]
  simp only [Program.fieldsOf, Tryz.underlying36]
  simp [go_sem, sessEq]
  by_cases e0 : p0 = q0
  rotate_left
  · simp [e0]
  by_cases e1 : p1 = q1
  rotate_left
  · simp [e1]
  by_cases e2 : p2.toList = q2.toList
  rotate_left
  · simp [e2]
  simp [e0, e1, e2]

theorem guard_Session (a b : Operand) (xs ys : Array Value) (w : World) : (eqGuard .neq 36 a b (.agg xs) (.agg ys)).run Tryz.prog w = .ok () w := run_eqGuard_agg w .neq 36 a b xs ys (by kernel_rfl)

set_option maxRecDepth 100000 in
theorem neq_Item (p0 : ByteArray) (p1 : ByteArray) (p2 : Int) (q0 : ByteArray) (q1 : ByteArray) (q2 : Int) (w : World) : (binOp .neq 41 (.agg #[.string p0, .string p1, .int .i64 p2]) (.agg #[.string q0, .string q1, .int .i64 q2])).run Tryz.prog w = .ok (.bool (!itemEq ⟨p0, p1, p2⟩ ⟨q0, q1, q2⟩)) w := by
  rw [run_neq_struct, run_equalIn_agg (w := w) (d := 9999) (t := 41) (ht := by kernel_rfl) (hp := by kernel_rfl)]
  simp only [Program.fieldsOf, Tryz.underlying41]
  simp [go_sem, itemEq]
  by_cases e0 : p0.toList = q0.toList
  rotate_left
  · simp [e0]
  by_cases e1 : p1.toList = q1.toList
  rotate_left
  · simp [e1]
  by_cases e2 : p2 = q2
  rotate_left
  · simp [e2]
  simp [e0, e1, e2]

theorem guard_Item (a b : Operand) (xs ys : Array Value) (w : World) : (eqGuard .neq 41 a b (.agg xs) (.agg ys)).run Tryz.prog w = .ok () w := run_eqGuard_agg w .neq 41 a b xs ys (by kernel_rfl)
end Go.Proofs.YtohpkegbmhmjeaaGreatDoor
