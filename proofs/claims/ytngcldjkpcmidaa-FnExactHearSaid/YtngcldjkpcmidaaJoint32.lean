/-
  The walk of impl.hasFlags: whether a segment bears a flag.
  The walks of impl.AddNum and of a number's plus: numbers that go round.
-/
import Derived.Test.YtngcldjkpcmidaaJoint1
import Derived.Test.YtngcldjkpcmidaaJoint31
import Derived.Test.YtngcldjkpcmidaaRows
import Derived.WalkKit
import Derived.Laws.BitsAllLaws
namespace Go.Proofs.Ytngcldjkpcmidaa
open Go.RowKit

theorem bits_four {f : Int} (h1 : 0 ≤ f) (h2 : f ≤ 7) : bits .and .i64 f 4 = if f / 4 % 2 = 1 then 4 else 0 := by
  obtain rfl | rfl | rfl | rfl | rfl | rfl | rfl | rfl : f = 0 ∨ f = 1 ∨ f = 2 ∨ f = 3 ∨ f = 4 ∨ f = 5 ∨ f = 6 ∨ f = 7 := by omega
  all_goals decide
set_option maxRecDepth 1000000 in
theorem hasFlags_one (s : SegD) (h1 : 0 ≤ s.flags) (h2 : s.flags ≤ 7) (w : World) :
    Calls Try.prog 54 #[.agg #[.int .i64 s.num, .int .i64 s.ack, .int .i64 s.flags, .string s.body], .int .i64 1] w fun e w' => e = .returned (.bool (synB s)) ∧ Below w.heap.size w w' := by
  have HB := hid (below_more (Below.refl w.heap.size w) (.cells #[.int .i64 s.num, .int .i64 s.ack, .int .i64 s.flags, .string s.body] 34))
  have hq := bits_one h1 h2
  by_cases hc : s.flags % 2 = 1
  · rw [if_pos hc] at hq
    have HR : Hid (synB s = true) := decide_eq_true hc
    clear hc
    go_enter Try.func54, Try.ntmps54
    go_wp2
    go_ret
    exact ⟨by rw [HR.out]; rfl, HB.out⟩
  · rw [if_neg hc] at hq
    have HR : Hid (synB s = false) := decide_eq_false hc
    clear hc
    go_enter Try.func54, Try.ntmps54
    go_wp2
    go_ret
    exact ⟨by rw [HR.out]; rfl, HB.out⟩
set_option maxRecDepth 1000000 in
theorem hasFlags_two (s : SegD) (h1 : 0 ≤ s.flags) (h2 : s.flags ≤ 7) (w : World) :
    Calls Try.prog 54 #[.agg #[.int .i64 s.num, .int .i64 s.ack, .int .i64 s.flags, .string s.body], .int .i64 2] w fun e w' => e = .returned (.bool (ackB s)) ∧ Below w.heap.size w w' := by
  have HB := hid (below_more (Below.refl w.heap.size w) (.cells #[.int .i64 s.num, .int .i64 s.ack, .int .i64 s.flags, .string s.body] 34))
  have hq := bits_two h1 h2
  by_cases hc : s.flags / 2 % 2 = 1
  · rw [if_pos hc] at hq
    have HR : Hid (ackB s = true) := decide_eq_true hc
    clear hc
    go_enter Try.func54, Try.ntmps54
    go_wp2
    go_ret
    exact ⟨by rw [HR.out]; rfl, HB.out⟩
  · rw [if_neg hc] at hq
    have HR : Hid (ackB s = false) := decide_eq_false hc
    clear hc
    go_enter Try.func54, Try.ntmps54
    go_wp2
    go_ret
    exact ⟨by rw [HR.out]; rfl, HB.out⟩
set_option maxRecDepth 1000000 in
theorem hasFlags_four (s : SegD) (h1 : 0 ≤ s.flags) (h2 : s.flags ≤ 7) (w : World) :
    Calls Try.prog 54 #[.agg #[.int .i64 s.num, .int .i64 s.ack, .int .i64 s.flags, .string s.body], .int .i64 4] w fun e w' => e = .returned (.bool (finF s)) ∧ Below w.heap.size w w' := by
  have HB := hid (below_more (Below.refl w.heap.size w) (.cells #[.int .i64 s.num, .int .i64 s.ack, .int .i64 s.flags, .string s.body] 34))
  have hq := bits_four h1 h2
  by_cases hc : s.flags / 4 % 2 = 1
  · rw [if_pos hc] at hq
    have HR : Hid (finF s = true) := decide_eq_true hc
    clear hc
    go_enter Try.func54, Try.ntmps54
    go_wp2
    go_ret
    exact ⟨by rw [HR.out]; rfl, HB.out⟩
  · rw [if_neg hc] at hq
    have HR : Hid (finF s = false) := decide_eq_false hc
    clear hc
    go_enter Try.func54, Try.ntmps54
    go_wp2
    go_ret
    exact ⟨by rw [HR.out]; rfl, HB.out⟩
end Go.Proofs.Ytngcldjkpcmidaa

namespace Go.Proofs.Ytngcldjkpcmidaa
open Go.RowKit

set_option maxRecDepth 1000000 in
theorem plus_any (a n : Int) (w : World) :
    Calls Try.prog 60 #[.int .u16 a, .int .u16 n] w fun e w' => e = .returned (.int .u16 (addNum a n)) ∧ w' = w := by
  have hr : IntKind.u16.wrap (a + n) = addNum a n := by rw [IntKind.wrap_u16]; rfl
  go_enter Try.func60, Try.ntmps60
  go_wp2
  go_ret
  exact ⟨rfl, rfl⟩

set_option maxRecDepth 1000000 in
theorem implAddNum_any (a n : Int) (w : World) :
    Calls Try.prog 55 #[.int .i64 a, .int .i64 n] w fun e w' => e = .returned (.int .i64 (addNum a n)) ∧ w' = w := by
  obtain ⟨p, hp⟩ : ∃ p, IntKind.u16.wrap a = p := ⟨_, rfl⟩
  obtain ⟨q, hq⟩ : ∃ p, IntKind.u16.wrap n = p := ⟨_, rfl⟩
  have HR : Hid (addNum p q = addNum a n) := by show _ = _; rw [IntKind.wrap_u16] at hp hq; unfold addNum; omega
  go_enter Try.func55, Try.ntmps55
  go_wp2_with fail
  refine (plus_any p q _).mono ?_
  rintro e w1 ⟨rfl, hw⟩
  rw [hw]
  clear hw w1 hp hq
  rw [HR.out]
  obtain ⟨h1, h2⟩ := addNum_bd a n
  go_wp2
  go_ret
  exact ⟨rfl, rfl⟩
end Go.Proofs.Ytngcldjkpcmidaa
