/-
  The walk of impl.Gap: how far a number is behind another one.
-/
import Derived.Test.YteokpbgjkjdjbaaJoint15
namespace Go.Proofs.Yteokpbgjkjdjbaa
open Go.RowKit

set_option maxRecDepth 1000000 in
theorem gapTo_any (a b : Int) (w : World) :
    Calls Try.prog 96 #[.int .u16 a, .int .u16 b] w fun e w' => e = .returned (.int .u16 (gapNum a b)) ∧ w' = w := by
  obtain ⟨p, hp⟩ : ∃ p, IntKind.u16.wrap (-a) = p := ⟨_, rfl⟩
  have HR : Hid (addNum b p = gapNum a b) := by show _ = _; rw [IntKind.wrap_u16] at hp; unfold addNum gapNum; omega
  go_enter Try.func96, Try.ntmps96
  go_wp2_with fail
  refine (plus_any b p _).mono ?_
  rintro e w1 ⟨rfl, hw⟩
  rw [hw]
  clear hw w1 hp
  rw [HR.out]
  go_wp2
  go_ret
  exact ⟨rfl, rfl⟩

set_option maxRecDepth 1000000 in
theorem implGap_any (a b : Int) (w : World) :
    Calls Try.prog 91 #[.int .i64 a, .int .i64 b] w fun e w' => e = .returned (.int .i64 (gapNum a b)) ∧ w' = w := by
  obtain ⟨p, hp⟩ : ∃ p, IntKind.u16.wrap a = p := ⟨_, rfl⟩
  obtain ⟨q, hq⟩ : ∃ p, IntKind.u16.wrap b = p := ⟨_, rfl⟩
  have HR : Hid (gapNum p q = gapNum a b) := by show _ = _; rw [IntKind.wrap_u16] at hp hq; unfold gapNum; omega
  go_enter Try.func91, Try.ntmps91
  go_wp2_with fail
  refine (gapTo_any p q _).mono ?_
  rintro e w1 ⟨rfl, hw⟩
  rw [hw]
  clear hw w1 hp hq
  rw [HR.out]
  obtain ⟨h1, h2⟩ := gapNum_bd a b
  go_wp2
  go_ret
  exact ⟨rfl, rfl⟩
end Go.Proofs.Yteokpbgjkjdjbaa
