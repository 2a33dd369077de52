/-
  The walks of impl.AddNum and of a number's plus: numbers that go round.
-/
import Derived.Test.YtcmcmhiodkjflaaJoint1
import Derived.Test.YtcmcmhiodkjflaaRows
import Derived.WalkKit
import Derived.Laws.BitsAllLaws
namespace Go.Proofs.Ytcmcmhiodkjflaa
open Go.RowKit

set_option maxRecDepth 1000000 in
theorem plus_any (a n : Int) (w : World) :
    Calls Try.prog 80 #[.int .u16 a, .int .u16 n] w fun e w' => e = .returned (.int .u16 (addNum a n)) ∧ w' = w := by
  have hr : IntKind.u16.wrap (a + n) = addNum a n := by rw [IntKind.wrap_u16]; rfl
  go_enter Try.func80, Try.ntmps80
  go_wp2
  go_ret
  exact ⟨rfl, rfl⟩

set_option maxRecDepth 1000000 in
theorem implAddNum_any (a n : Int) (w : World) :
    Calls Try.prog 75 #[.int .i64 a, .int .i64 n] w fun e w' => e = .returned (.int .i64 (addNum a n)) ∧ w' = w := by
  obtain ⟨p, hp⟩ : ∃ p, IntKind.u16.wrap a = p := ⟨_, rfl⟩
  obtain ⟨q, hq⟩ : ∃ p, IntKind.u16.wrap n = p := ⟨_, rfl⟩
  have HR : Hid (addNum p q = addNum a n) := by show _ = _; rw [IntKind.wrap_u16] at hp hq; unfold addNum; omega
  go_enter Try.func75, Try.ntmps75
  go_wp2_with fail
  refine (plus_any p q _).mono ?_
  rintro e w1 ⟨rfl, hw⟩
  rw [hw]
  clear hw w1 hp hq
  rw [HR.out]
  obtain ⟨h1, h2⟩ := addNum_bd a n
  go_wp2
  go_ret
  exact ⟨rfl, rfl⟩
end Go.Proofs.Ytcmcmhiodkjflaa
