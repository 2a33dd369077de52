/-
  The walk of spec.TurnOk: what it answers.
-/
import Derived.Test.YthkkhmmcgjcedaaPlainTurn
import Derived.Test.YthkkhmmcgjcedaaInS
import Derived.Test.YthkkhmmcgjcedaaBlock
import Derived.Test.YthkkhmmcgjcedaaRows
namespace Go.Proofs.Ythkkhmmcgjcedaa
open Go.RowKit

set_option maxRecDepth 1000000 in
set_option maxHeartbeats 2000000 in
theorem specTurnOk_any (d : TurnD) (w : World) :
    Calls Try.prog 5 #[.agg #[.int .i64 d.kd, .int .i64 d.en, .int .i64 d.pl]] w fun e w' => e = .returned (.bool (turnOk d)) ∧ Below w.heap.size w w' := by
  obtain ⟨a, b, c⟩ := d
  dsimp only
  have HB := hid (below_more (Below.refl w.heap.size w) (.cells #[.int .i64 a, .int .i64 b, .int .i64 c] 25))
  have hx : BlockIs (w.alloc (.cells #[.int .i64 a, .int .i64 b, .int .i64 c] 25)) w.heap.size 25 [.int .i64 a, .int .i64 b, .int .i64 c] := heap_alloc_new w _
  obtain ⟨W, hW⟩ : ∃ W, w.alloc (.cells #[.int .i64 a, .int .i64 b, .int .i64 c] 25) = W := ⟨_, rfl⟩
  rw [hW] at HB hx
  have c0 := hx.cell (j := 0) rfl
  have c1 := hx.cell (j := 1) rfl
  have c2 := hx.cell (j := 2) rfl
  clear hx
  have m0 := fun w => l01In_any a 1 5 w
  cases h0 : within a 1 5 with
  | false =>
    rw [h0] at m0
    have n0 := hid m0
    clear m0
    have HR : Hid (turnOk ⟨a, b, c⟩ = false) := by show _ = _; simp [turnOk, h0]
    clear h0
    go_enter Try.func5, Try.ntmps5
    go_wp2_with (first | (go_at_call 13; with_reducible refine Calls.mono (n0.out _) ?_; rintro e w1 ⟨rfl, hw⟩; rw [hw]; clear hw w1) | fail)
    go_ret
    exact ⟨by rw [HR.out]; rfl, HB.out⟩
  | true =>
    rw [h0] at m0
    have n0 := hid m0
    clear m0
    have m1 := fun w => l01In_any b 0 1 w
    cases h1 : within b 0 1 with
    | false =>
      rw [h1] at m1
      have n1 := hid m1
      clear m1
      have HR : Hid (turnOk ⟨a, b, c⟩ = false) := by show _ = _; simp [turnOk, h0, h1]
      clear h0 h1
      go_enter Try.func5, Try.ntmps5
      go_wp2_with (first | (go_at_call 13; with_reducible refine Calls.mono (n0.out _) ?_; rintro e w1 ⟨rfl, hw⟩; rw [hw]; clear hw w1) | (go_at_call 13; with_reducible refine Calls.mono (n1.out _) ?_; rintro e w1 ⟨rfl, hw⟩; rw [hw]; clear hw w1) | fail)
      go_ret
      exact ⟨by rw [HR.out]; rfl, HB.out⟩
    | true =>
      rw [h1] at m1
      have n1 := hid m1
      clear m1
      have HR : Hid (turnOk ⟨a, b, c⟩ = decide (0 ≤ c)) := by show _ = _; simp [turnOk, h0, h1]
      clear h0 h1
      go_enter Try.func5, Try.ntmps5
      go_wp2_with (first | (go_at_call 13; with_reducible refine Calls.mono (n0.out _) ?_; rintro e w1 ⟨rfl, hw⟩; rw [hw]; clear hw w1) | (go_at_call 13; with_reducible refine Calls.mono (n1.out _) ?_; rintro e w1 ⟨rfl, hw⟩; rw [hw]; clear hw w1) | fail)
      go_ret
      exact ⟨by rw [HR.out]; rfl, HB.out⟩
end Go.Proofs.Ythkkhmmcgjcedaa
