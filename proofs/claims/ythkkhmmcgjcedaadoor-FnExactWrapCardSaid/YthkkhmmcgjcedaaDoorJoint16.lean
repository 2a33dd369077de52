/-
  The walk of spec.CellOk: what it answers.
-/
import Derived.Test.YthkkhmmcgjcedaaDoorJoint1
import Derived.Test.YthkkhmmcgjcedaaDoorJoint5
import Derived.Deep.QuietTactic
import Derived.BigQuiet
import Derived.Lib.QuietBelow
import Derived.Test.YthkkhmmcgjcedaaDoorRows
namespace Go.Proofs.YthkkhmmcgjcedaaDoor
open Go.RowKit

set_option maxRecDepth 1000000 in
set_option maxHeartbeats 2000000 in
theorem specCellOk_any (d : CellD) (w : World) :
    Calls Tryd.prog 26 #[.agg #[.int .i64 d.dst, .int .i64 d.src, .int .i64 d.kd, .string d.body]] w fun e w' => e = .returned (.bool (cellOk d)) ∧ Below w.heap.size w w' := by
  obtain ⟨a, b, c, s⟩ := d
  dsimp only
  have HB := hid (below_more (Below.refl w.heap.size w) (.cells #[.int .i64 a, .int .i64 b, .int .i64 c, .string s] 43))
  have hx : BlockIs (w.alloc (.cells #[.int .i64 a, .int .i64 b, .int .i64 c, .string s] 43)) w.heap.size 43 [.int .i64 a, .int .i64 b, .int .i64 c, .string s] := heap_alloc_new w _
  obtain ⟨W, hW⟩ : ∃ W, w.alloc (.cells #[.int .i64 a, .int .i64 b, .int .i64 c, .string s] 43) = W := ⟨_, rfl⟩
  rw [hW] at HB hx
  have c0 := hx.cell (j := 0) rfl
  have c1 := hx.cell (j := 1) rfl
  have c2 := hx.cell (j := 2) rfl
  have c3 := hx.cell (j := 3) rfl
  clear hx
  have m0 := fun w => l01In_any a 0 99 w
  cases h0 : within a 0 99 with
  | false =>
    rw [h0] at m0
    have n0 := hid m0
    clear m0
    have HR : Hid (cellOk ⟨a, b, c, s⟩ = false) := by show _ = _; simp [cellOk, h0]
    clear h0
    go_enter Tryd.func26, Tryd.ntmps26
    go_wp2_with (first | (go_at_call 23; with_reducible refine Calls.mono (n0.out _) ?_; rintro e w1 ⟨rfl, hw⟩; rw [hw]; clear hw w1) | fail)
    go_ret
    exact ⟨by rw [HR.out]; rfl, HB.out⟩
  | true =>
    rw [h0] at m0
    have n0 := hid m0
    clear m0
    have m1 := fun w => l01In_any b 1 99 w
    cases h1 : within b 1 99 with
    | false =>
      rw [h1] at m1
      have n1 := hid m1
      clear m1
      have HR : Hid (cellOk ⟨a, b, c, s⟩ = false) := by show _ = _; simp [cellOk, h0, h1]
      clear h0 h1
      go_enter Tryd.func26, Tryd.ntmps26
      go_wp2_with (first | (go_at_call 23; with_reducible refine Calls.mono (n0.out _) ?_; rintro e w1 ⟨rfl, hw⟩; rw [hw]; clear hw w1) | (go_at_call 23; with_reducible refine Calls.mono (n1.out _) ?_; rintro e w1 ⟨rfl, hw⟩; rw [hw]; clear hw w1) | fail)
      go_ret
      exact ⟨by rw [HR.out]; rfl, HB.out⟩
    | true =>
      rw [h1] at m1
      have n1 := hid m1
      clear m1
      have m2 := fun w => l01In_any c 1 3 w
      cases h2 : within c 1 3 with
      | false =>
        rw [h2] at m2
        have n2 := hid m2
        clear m2
        have HR : Hid (cellOk ⟨a, b, c, s⟩ = false) := by show _ = _; simp [cellOk, h0, h1, h2]
        clear h0 h1 h2
        go_enter Tryd.func26, Tryd.ntmps26
        go_wp2_with (first | (go_at_call 23; with_reducible refine Calls.mono (n0.out _) ?_; rintro e w1 ⟨rfl, hw⟩; rw [hw]; clear hw w1) | (go_at_call 23; with_reducible refine Calls.mono (n1.out _) ?_; rintro e w1 ⟨rfl, hw⟩; rw [hw]; clear hw w1) | (go_at_call 23; with_reducible refine Calls.mono (n2.out _) ?_; rintro e w1 ⟨rfl, hw⟩; rw [hw]; clear hw w1) | fail)
        go_ret
        exact ⟨by rw [HR.out]; rfl, HB.out⟩
      | true =>
        rw [h2] at m2
        have n2 := hid m2
        clear m2
        have HR : Hid (cellOk ⟨a, b, c, s⟩ = decide ((s.size : Int) ≤ 60)) := by show _ = _; simp [cellOk, h0, h1, h2]
        clear h0 h1 h2
        go_enter Tryd.func26, Tryd.ntmps26
        go_wp2_with (first | (go_at_call 23; with_reducible refine Calls.mono (n0.out _) ?_; rintro e w1 ⟨rfl, hw⟩; rw [hw]; clear hw w1) | (go_at_call 23; with_reducible refine Calls.mono (n1.out _) ?_; rintro e w1 ⟨rfl, hw⟩; rw [hw]; clear hw w1) | (go_at_call 23; with_reducible refine Calls.mono (n2.out _) ?_; rintro e w1 ⟨rfl, hw⟩; rw [hw]; clear hw w1) | fail)
        go_ret
        exact ⟨by rw [HR.out]; rfl, HB.out⟩
end Go.Proofs.YthkkhmmcgjcedaaDoor
