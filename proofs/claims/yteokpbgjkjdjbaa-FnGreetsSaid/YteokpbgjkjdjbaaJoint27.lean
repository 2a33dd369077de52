/-
  The walk of impl.hasFlags: whether a segment bears a flag.
-/
import Derived.Test.YteokpbgjkjdjbaaJoint1
import Derived.Test.YteokpbgjkjdjbaaJoint7
namespace Go.Proofs.Yteokpbgjkjdjbaa
open Go.RowKit

theorem bits_four {f : Int} (h1 : 0 ≤ f) (h2 : f ≤ 7) : bits .and .i64 f 4 = if f / 4 % 2 = 1 then 4 else 0 := by
  obtain rfl | rfl | rfl | rfl | rfl | rfl | rfl | rfl : f = 0 ∨ f = 1 ∨ f = 2 ∨ f = 3 ∨ f = 4 ∨ f = 5 ∨ f = 6 ∨ f = 7 := by omega
  all_goals decide
set_option maxRecDepth 1000000 in
theorem hasFlags_one (s : SegD) (h1 : 0 ≤ s.flags) (h2 : s.flags ≤ 7) (w : World) :
    Calls Try.prog 82 #[.agg #[.int .i64 s.num, .int .i64 s.ack, .int .i64 s.flags, .string s.body], .int .i64 1] w fun e w' => e = .returned (.bool (synB s)) ∧ Below w.heap.size w w' := by
  have HB := hid (below_more (Below.refl w.heap.size w) (.cells #[.int .i64 s.num, .int .i64 s.ack, .int .i64 s.flags, .string s.body] 36))
  have hq := bits_one h1 h2
  by_cases hc : s.flags % 2 = 1
  · rw [if_pos hc] at hq
    have HR : Hid (synB s = true) := decide_eq_true hc
    clear hc
    go_enter Try.func82, Try.ntmps82
    go_wp2
    go_ret
    exact ⟨by rw [HR.out]; rfl, HB.out⟩
  · rw [if_neg hc] at hq
    have HR : Hid (synB s = false) := decide_eq_false hc
    clear hc
    go_enter Try.func82, Try.ntmps82
    go_wp2
    go_ret
    exact ⟨by rw [HR.out]; rfl, HB.out⟩
set_option maxRecDepth 1000000 in
theorem hasFlags_two (s : SegD) (h1 : 0 ≤ s.flags) (h2 : s.flags ≤ 7) (w : World) :
    Calls Try.prog 82 #[.agg #[.int .i64 s.num, .int .i64 s.ack, .int .i64 s.flags, .string s.body], .int .i64 2] w fun e w' => e = .returned (.bool (ackB s)) ∧ Below w.heap.size w w' := by
  have HB := hid (below_more (Below.refl w.heap.size w) (.cells #[.int .i64 s.num, .int .i64 s.ack, .int .i64 s.flags, .string s.body] 36))
  have hq := bits_two h1 h2
  by_cases hc : s.flags / 2 % 2 = 1
  · rw [if_pos hc] at hq
    have HR : Hid (ackB s = true) := decide_eq_true hc
    clear hc
    go_enter Try.func82, Try.ntmps82
    go_wp2
    go_ret
    exact ⟨by rw [HR.out]; rfl, HB.out⟩
  · rw [if_neg hc] at hq
    have HR : Hid (ackB s = false) := decide_eq_false hc
    clear hc
    go_enter Try.func82, Try.ntmps82
    go_wp2
    go_ret
    exact ⟨by rw [HR.out]; rfl, HB.out⟩
set_option maxRecDepth 1000000 in
theorem hasFlags_four (s : SegD) (h1 : 0 ≤ s.flags) (h2 : s.flags ≤ 7) (w : World) :
    Calls Try.prog 82 #[.agg #[.int .i64 s.num, .int .i64 s.ack, .int .i64 s.flags, .string s.body], .int .i64 4] w fun e w' => e = .returned (.bool (finF s)) ∧ Below w.heap.size w w' := by
  have HB := hid (below_more (Below.refl w.heap.size w) (.cells #[.int .i64 s.num, .int .i64 s.ack, .int .i64 s.flags, .string s.body] 36))
  have hq := bits_four h1 h2
  by_cases hc : s.flags / 4 % 2 = 1
  · rw [if_pos hc] at hq
    have HR : Hid (finF s = true) := decide_eq_true hc
    clear hc
    go_enter Try.func82, Try.ntmps82
    go_wp2
    go_ret
    exact ⟨by rw [HR.out]; rfl, HB.out⟩
  · rw [if_neg hc] at hq
    have HR : Hid (finF s = false) := decide_eq_false hc
    clear hc
    go_enter Try.func82, Try.ntmps82
    go_wp2
    go_ret
    exact ⟨by rw [HR.out]; rfl, HB.out⟩
end Go.Proofs.Yteokpbgjkjdjbaa
