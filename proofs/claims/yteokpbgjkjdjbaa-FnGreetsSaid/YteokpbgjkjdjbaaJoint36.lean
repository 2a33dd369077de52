/-
  The walks of spec.Ended and impl.Ended: whether a stream has ended.
-/
import Derived.Test.YteokpbgjkjdjbaaJoint1
namespace Go.Proofs.Yteokpbgjkjdjbaa
open Go.RowKit

set_option maxRecDepth 1000000 in
theorem specEnded_any (d : StrD) (ao : Option Addr) (cap : Nat) (w : World) :
    Calls Try.prog 25 #[.agg #[.int .i64 d.st, .int .i64 d.iss, .int .i64 d.una, .int .i64 d.rcv, .string d.wait, .int .i64 d.sent, .int .i64 d.fin, .bool d.pf, .string d.inn, .slice ao d.late.length cap, .bool d.owe, .int .i64 d.due, .int .i64 d.times]] w fun e w' => e = .returned (.bool (endedD d)) ∧ Below w.heap.size w w' := by
  have HB := hid (below_more (Below.refl w.heap.size w) (.cells #[.int .i64 d.st, .int .i64 d.iss, .int .i64 d.una, .int .i64 d.rcv, .string d.wait, .int .i64 d.sent, .int .i64 d.fin, .bool d.pf, .string d.inn, .slice ao d.late.length cap, .bool d.owe, .int .i64 d.due, .int .i64 d.times] 28))
  by_cases h : d.fin = 3
  · have hb : (d.fin == 3) = true := by rw [beq_iff_eq]; exact h
    have HR : Hid (endedD d = d.pf) := by show _ = _; rw [endedD, decide_eq_true h]; rfl
    clear h
    go_enter Try.func25, Try.ntmps25
    go_wp2
    go_ret
    exact ⟨by rw [HR.out]; rfl, HB.out⟩
  · have hb : (d.fin == 3) = false := by rw [beq_eq_false_iff_ne]; exact h
    have HR : Hid (endedD d = false) := by show _ = _; rw [endedD, decide_eq_false h]; rfl
    go_enter Try.func25, Try.ntmps25
    go_wp2
    go_ret
    exact ⟨by rw [HR.out]; rfl, HB.out⟩

set_option maxRecDepth 1000000 in
theorem implEnded_any (d : StrD) (ao : Option Addr) (cap : Nat) (w : World) :
    Calls Try.prog 12 #[.agg #[.int .i64 d.st, .int .i64 d.iss, .int .i64 d.una, .int .i64 d.rcv, .string d.wait, .int .i64 d.sent, .int .i64 d.fin, .bool d.pf, .string d.inn, .slice ao d.late.length cap, .bool d.owe, .int .i64 d.due, .int .i64 d.times]] w fun e w' => e = .returned (.bool (endedD d)) ∧ Below w.heap.size w w' := by
  have HB := hid (below_more (Below.refl w.heap.size w) (.cells #[.int .i64 d.st, .int .i64 d.iss, .int .i64 d.una, .int .i64 d.rcv, .string d.wait, .int .i64 d.sent, .int .i64 d.fin, .bool d.pf, .string d.inn, .slice ao d.late.length cap, .bool d.owe, .int .i64 d.due, .int .i64 d.times] 28))
  by_cases h : d.fin = 3
  · have hb : (d.fin == 3) = true := by rw [beq_iff_eq]; exact h
    have HR : Hid (endedD d = d.pf) := by show _ = _; rw [endedD, decide_eq_true h]; rfl
    clear h
    go_enter Try.func12, Try.ntmps12
    go_wp2
    go_ret
    exact ⟨by rw [HR.out]; rfl, HB.out⟩
  · have hb : (d.fin == 3) = false := by rw [beq_eq_false_iff_ne]; exact h
    have HR : Hid (endedD d = false) := by show _ = _; rw [endedD, decide_eq_false h]; rfl
    go_enter Try.func12, Try.ntmps12
    go_wp2
    go_ret
    exact ⟨by rw [HR.out]; rfl, HB.out⟩
end Go.Proofs.Yteokpbgjkjdjbaa
