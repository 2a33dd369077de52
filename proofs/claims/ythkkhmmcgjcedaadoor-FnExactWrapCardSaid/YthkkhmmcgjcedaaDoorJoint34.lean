/-
  The walk of impl.CellOk: what it answers.
-/
import Derived.Test.YthkkhmmcgjcedaaDoorJoint1
import Derived.Test.YthkkhmmcgjcedaaDoorJoint27
import Derived.Deep.QuietTactic
import Derived.BigQuiet
import Derived.Lib.QuietBelow
import Derived.Test.YthkkhmmcgjcedaaDoorRows
namespace Go.Proofs.YthkkhmmcgjcedaaDoor
open Go.RowKit

set_option maxRecDepth 1000000 in
theorem isCellKind_any (x : Int) (w : World) : Calls Tryd.prog 43 #[.int .i64 x] w fun e w' => e = .returned (.bool (within x 1 3)) ∧ w' = w := by
  by_cases h1 : x = 1
  · subst h1
    go_enter Tryd.func43, Tryd.ntmps43
    go_wp2
    go_ret
    exact ⟨rfl, rfl⟩
  by_cases h2 : x = 2
  · subst h2
    go_enter Tryd.func43, Tryd.ntmps43
    go_wp2
    go_ret
    exact ⟨rfl, rfl⟩
  by_cases h3 : x = 3
  · subst h3
    go_enter Tryd.func43, Tryd.ntmps43
    go_wp2
    go_ret
    exact ⟨rfl, rfl⟩
  have HN := hid (within_no (x := x) (a := 1) (b := 3) (by omega))
  go_enter Tryd.func43, Tryd.ntmps43
  go_wp2
  go_ret
  exact ⟨by rw [HN.out]; rfl, rfl⟩

set_option maxRecDepth 1000000 in
set_option maxHeartbeats 2000000 in
theorem implCellOk_any (d : CellD) (w : World) :
    Calls Tryd.prog 35 #[.agg #[.int .i64 d.dst, .int .i64 d.src, .int .i64 d.kd, .string d.body]] w fun e w' => e = .returned (.bool (cellOk d)) ∧ Below w.heap.size w w' := by
  obtain ⟨a, b, c, s⟩ := d
  dsimp only
  have HB := hid (below_more (Below.refl w.heap.size w) (.cells #[.int .i64 a, .int .i64 b, .int .i64 c, .string s] 43))
  have hx : BlockIs (w.alloc (.cells #[.int .i64 a, .int .i64 b, .int .i64 c, .string s] 43)) w.heap.size 43 [.int .i64 a, .int .i64 b, .int .i64 c, .string s] := heap_alloc_new w _
  obtain ⟨W, hW⟩ : ∃ W, w.alloc (.cells #[.int .i64 a, .int .i64 b, .int .i64 c, .string s] 43) = W := ⟨_, rfl⟩
  rw [hW] at HB hx
  have c0 := hx.cell (j := 0) rfl
  have c1 := hx.cell (j := 1) rfl
  have c2 := hx.cell (j := 2) rfl
  have c3 := hx.cell (j := 3) rfl
  clear hx
  by_cases z : a = 0
  · subst z
    have h0 : within 0 0 99 = true := by decide
    have m1 := fun w => isAddress_any b w
    cases h1 : within b 1 99 with
    | false =>
      rw [h1] at m1
      have n1 := hid m1
      clear m1
      have HR : Hid (cellOk ⟨0, b, c, s⟩ = false) := by show _ = _; simp [cellOk, h0, h1]
      clear h0 h1
      go_enter Tryd.func35, Tryd.ntmps35
      go_wp2_with (first | (go_at_call 41; with_reducible refine Calls.mono (n1.out _) ?_; rintro e w1 ⟨rfl, hw⟩; rw [hw]; clear hw w1) | fail)
      go_ret
      exact ⟨by rw [HR.out]; rfl, HB.out⟩
    | true =>
      rw [h1] at m1
      have n1 := hid m1
      clear m1
      have m2 := fun w => isCellKind_any c w
      cases h2 : within c 1 3 with
      | false =>
        rw [h2] at m2
        have n2 := hid m2
        clear m2
        have HR : Hid (cellOk ⟨0, b, c, s⟩ = false) := by show _ = _; simp [cellOk, h0, h1, h2]
        clear h0 h1 h2
        go_enter Tryd.func35, Tryd.ntmps35
        go_wp2_with (first | (go_at_call 41; with_reducible refine Calls.mono (n1.out _) ?_; rintro e w1 ⟨rfl, hw⟩; rw [hw]; clear hw w1) | (go_at_call 43; with_reducible refine Calls.mono (n2.out _) ?_; rintro e w1 ⟨rfl, hw⟩; rw [hw]; clear hw w1) | fail)
        go_ret
        exact ⟨by rw [HR.out]; rfl, HB.out⟩
      | true =>
        rw [h2] at m2
        have n2 := hid m2
        clear m2
        have HR : Hid (cellOk ⟨0, b, c, s⟩ = decide ((s.size : Int) ≤ 60)) := by show _ = _; simp [cellOk, h0, h1, h2]
        clear h0 h1 h2
        go_enter Tryd.func35, Tryd.ntmps35
        go_wp2_with (first | (go_at_call 41; with_reducible refine Calls.mono (n1.out _) ?_; rintro e w1 ⟨rfl, hw⟩; rw [hw]; clear hw w1) | (go_at_call 43; with_reducible refine Calls.mono (n2.out _) ?_; rintro e w1 ⟨rfl, hw⟩; rw [hw]; clear hw w1) | fail)
        go_ret
        exact ⟨by rw [HR.out]; rfl, HB.out⟩
  · have hz : decide (a = 0) = false := by simpa using z
    have m0 := fun w => isAddress_any a w
    cases g0 : within a 1 99 with
    | false =>
      have h0 : within a 0 99 = false := by rw [← Bool.not_eq_true] at g0 ⊢; rw [within_iff] at g0 ⊢; omega
      rw [g0] at m0
      have n0 := hid m0
      clear m0 g0
      have HR : Hid (cellOk ⟨a, b, c, s⟩ = false) := by show _ = _; simp [cellOk, h0]
      clear h0
      go_enter Tryd.func35, Tryd.ntmps35
      go_wp2_with (first | (go_at_call 41; with_reducible refine Calls.mono (n0.out _) ?_; rintro e w1 ⟨rfl, hw⟩; rw [hw]; clear hw w1) | fail)
      go_ret
      exact ⟨by rw [HR.out]; rfl, HB.out⟩
    | true =>
      have h0 : within a 0 99 = true := by rw [within_iff] at g0 ⊢; omega
      rw [g0] at m0
      have n0 := hid m0
      clear m0 g0
      have m1 := fun w => isAddress_any b w
      cases h1 : within b 1 99 with
      | false =>
        rw [h1] at m1
        have n1 := hid m1
        clear m1
        have HR : Hid (cellOk ⟨a, b, c, s⟩ = false) := by show _ = _; simp [cellOk, h0, h1]
        clear h0 h1
        go_enter Tryd.func35, Tryd.ntmps35
        go_wp2_with (first | (go_at_call 41; with_reducible refine Calls.mono (n0.out _) ?_; rintro e w1 ⟨rfl, hw⟩; rw [hw]; clear hw w1) | (go_at_call 41; with_reducible refine Calls.mono (n1.out _) ?_; rintro e w1 ⟨rfl, hw⟩; rw [hw]; clear hw w1) | fail)
        go_ret
        exact ⟨by rw [HR.out]; rfl, HB.out⟩
      | true =>
        rw [h1] at m1
        have n1 := hid m1
        clear m1
        have m2 := fun w => isCellKind_any c w
        cases h2 : within c 1 3 with
        | false =>
          rw [h2] at m2
          have n2 := hid m2
          clear m2
          have HR : Hid (cellOk ⟨a, b, c, s⟩ = false) := by show _ = _; simp [cellOk, h0, h1, h2]
          clear h0 h1 h2
          go_enter Tryd.func35, Tryd.ntmps35
          go_wp2_with (first | (go_at_call 41; with_reducible refine Calls.mono (n0.out _) ?_; rintro e w1 ⟨rfl, hw⟩; rw [hw]; clear hw w1) | (go_at_call 41; with_reducible refine Calls.mono (n1.out _) ?_; rintro e w1 ⟨rfl, hw⟩; rw [hw]; clear hw w1) | (go_at_call 43; with_reducible refine Calls.mono (n2.out _) ?_; rintro e w1 ⟨rfl, hw⟩; rw [hw]; clear hw w1) | fail)
          go_ret
          exact ⟨by rw [HR.out]; rfl, HB.out⟩
        | true =>
          rw [h2] at m2
          have n2 := hid m2
          clear m2
          have HR : Hid (cellOk ⟨a, b, c, s⟩ = decide ((s.size : Int) ≤ 60)) := by show _ = _; simp [cellOk, h0, h1, h2]
          clear h0 h1 h2
          go_enter Tryd.func35, Tryd.ntmps35
          go_wp2_with (first | (go_at_call 41; with_reducible refine Calls.mono (n0.out _) ?_; rintro e w1 ⟨rfl, hw⟩; rw [hw]; clear hw w1) | (go_at_call 41; with_reducible refine Calls.mono (n1.out _) ?_; rintro e w1 ⟨rfl, hw⟩; rw [hw]; clear hw w1) | (go_at_call 43; with_reducible refine Calls.mono (n2.out _) ?_; rintro e w1 ⟨rfl, hw⟩; rw [hw]; clear hw w1) | fail)
          go_ret
          exact ⟨by rw [HR.out]; rfl, HB.out⟩
end Go.Proofs.YthkkhmmcgjcedaaDoor
