/-
  The walk of impl.TurnOk: what it answers.
-/
import Derived.Test.YthkkhmmcgjcedaaPlainTurn
import Derived.Test.YthkkhmmcgjcedaaBlock
import Derived.Test.YthkkhmmcgjcedaaRows
namespace Go.Proofs.Ythkkhmmcgjcedaa
open Go.RowKit

set_option maxRecDepth 1000000 in
set_option maxHeartbeats 2000000 in
theorem implTurnOk_any (d : TurnD) (w : World) :
    Calls Try.prog 7 #[.agg #[.int .i64 d.kd, .int .i64 d.en, .int .i64 d.pl]] w fun e w' => e = .returned (.bool (turnOk d)) ∧ Below w.heap.size w w' := by
  obtain ⟨a, b, c⟩ := d
  dsimp only
  have HB := hid (below_more (Below.refl w.heap.size w) (.cells #[.int .i64 a, .int .i64 b, .int .i64 c] 25))
  have hx : BlockIs (w.alloc (.cells #[.int .i64 a, .int .i64 b, .int .i64 c] 25)) w.heap.size 25 [.int .i64 a, .int .i64 b, .int .i64 c] := heap_alloc_new w _
  obtain ⟨W, hW⟩ : ∃ W, w.alloc (.cells #[.int .i64 a, .int .i64 b, .int .i64 c] 25) = W := ⟨_, rfl⟩
  rw [hW] at HB hx
  have c0 := hx.cell (j := 0) rfl
  have c1 := hx.cell (j := 1) rfl
  have c2 := hx.cell (j := 2) rfl
  clear hx
  by_cases h0 : 1 ≤ a
  rotate_left
  · skip
    have HR : Hid (turnOk ⟨a, b, c⟩ = false) := by
      show _ = _
      exact turnOk_no fun h => h0 (by have := h.1.1; have := h.1.2; have := h.2.1.1; have := h.2.1.2; have := h.2.2; dsimp only at *; omega)
    go_enter Try.func7, Try.ntmps7
    go_wp2
    go_ret
    exact ⟨by rw [HR.out]; rfl, HB.out⟩
  by_cases h1 : a ≤ 5
  rotate_left
  · skip
    have HR : Hid (turnOk ⟨a, b, c⟩ = false) := by
      show _ = _
      exact turnOk_no fun h => h1 (by have := h.1.1; have := h.1.2; have := h.2.1.1; have := h.2.1.2; have := h.2.2; dsimp only at *; omega)
    go_enter Try.func7, Try.ntmps7
    go_wp2
    go_ret
    exact ⟨by rw [HR.out]; rfl, HB.out⟩
  by_cases h2 : 0 ≤ b
  rotate_left
  · skip
    have HR : Hid (turnOk ⟨a, b, c⟩ = false) := by
      show _ = _
      exact turnOk_no fun h => h2 (by have := h.1.1; have := h.1.2; have := h.2.1.1; have := h.2.1.2; have := h.2.2; dsimp only at *; omega)
    go_enter Try.func7, Try.ntmps7
    go_wp2
    go_ret
    exact ⟨by rw [HR.out]; rfl, HB.out⟩
  by_cases h3 : b < 2
  rotate_left
  · skip
    have HR : Hid (turnOk ⟨a, b, c⟩ = false) := by
      show _ = _
      exact turnOk_no fun h => h3 (by have := h.1.1; have := h.1.2; have := h.2.1.1; have := h.2.1.2; have := h.2.2; dsimp only at *; omega)
    go_enter Try.func7, Try.ntmps7
    go_wp2
    go_ret
    exact ⟨by rw [HR.out]; rfl, HB.out⟩
  by_cases h4 : 0 ≤ c
  rotate_left
  · skip
    have HR : Hid (turnOk ⟨a, b, c⟩ = false) := by
      show _ = _
      exact turnOk_no fun h => h4 (by have := h.1.1; have := h.1.2; have := h.2.1.1; have := h.2.1.2; have := h.2.2; dsimp only at *; omega)
    go_enter Try.func7, Try.ntmps7
    go_wp2
    go_ret
    exact ⟨by rw [HR.out]; rfl, HB.out⟩
  have HR : Hid (turnOk ⟨a, b, c⟩ = true) := by
    show _ = _
    rw [turnOk_iff]; exact ⟨⟨h0, h1⟩, ⟨h2, by show b ≤ 1; omega⟩, h4⟩
  go_enter Try.func7, Try.ntmps7
  go_wp2
  go_ret
  exact ⟨by rw [HR.out]; rfl, HB.out⟩
end Go.Proofs.Ythkkhmmcgjcedaa
