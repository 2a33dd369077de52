/-
  The walk of impl.DgramOk: what it answers.
-/
import Derived.Test.YthkkhmmcgjcedaaDoorJoint1
import Derived.Test.YthkkhmmcgjcedaaDoorJoint27
import Derived.Test.YthkkhmmcgjcedaaDoorRows
namespace Go.Proofs.YthkkhmmcgjcedaaDoor
open Go.RowKit

theorem dgramOk_no {d : DgramD} (h : ((1 ≤ d.src ∧ d.src ≤ 99) ∧ (1 ≤ d.dst ∧ d.dst ≤ 99) ∧ (0 ≤ d.ident ∧ d.ident ≤ 65535) ∧ (0 ≤ d.place ∧ d.place ≤ 160) ∧ d.place % 8 = 0 ∧ (1 ≤ (d.body.size : Int) ∧ (d.body.size : Int) ≤ 160 - d.place) ∧ (d.more = true → d.body.size % 8 = 0)) → False) : dgramOk d = false := by
  rw [← Bool.not_eq_true]
  exact fun hk => h (dgramOk_bd hk)
theorem dgramOk_yes {d : DgramD} (h1 : 1 ≤ d.src ∧ d.src ≤ 99) (h2 : 1 ≤ d.dst ∧ d.dst ≤ 99) (h3 : 0 ≤ d.ident ∧ d.ident ≤ 65535) (h4 : 0 ≤ d.place ∧ d.place ≤ 160) (h5 : d.place % 8 = 0) (h6 : 1 ≤ (d.body.size : Int) ∧ (d.body.size : Int) ≤ 160 - d.place) (h7 : d.more = true → d.body.size % 8 = 0) : dgramOk d = true := by
  simp only [dgramOk, Bool.and_eq_true, within_iff, decide_eq_true_eq, Bool.or_eq_true, Bool.not_eq_true']
  refine ⟨h1, h2, h3, h4, h5, h6, ?_⟩
  cases hm : d.more with
  | false => exact Or.inl rfl
  | true => exact Or.inr (h7 hm)

set_option maxRecDepth 1000000 in
set_option maxHeartbeats 4000000 in
theorem implDgramOk_any (d : DgramD) (hs : d.body.size ≤ 9223372036854775000) (w : World) :
    Calls Tryd.prog 30 #[.agg #[.int .i64 d.src, .int .i64 d.dst, .int .i64 d.ident, .int .i64 d.place, .bool d.more, .string d.body]] w fun e w' => e = .returned (.bool (dgramOk d)) ∧ Below w.heap.size w w' := by
  obtain ⟨a, b, c, p, m, s⟩ := d
  dsimp only at hs ⊢
  have HB := hid (below_more (Below.refl w.heap.size w) (.cells #[.int .i64 a, .int .i64 b, .int .i64 c, .int .i64 p, .bool m, .string s] 36))
  have hx : BlockIs (w.alloc (.cells #[.int .i64 a, .int .i64 b, .int .i64 c, .int .i64 p, .bool m, .string s] 36)) w.heap.size 36 [.int .i64 a, .int .i64 b, .int .i64 c, .int .i64 p, .bool m, .string s] := heap_alloc_new w _
  obtain ⟨W, hW⟩ : ∃ W, w.alloc (.cells #[.int .i64 a, .int .i64 b, .int .i64 c, .int .i64 p, .bool m, .string s] 36) = W := ⟨_, rfl⟩
  rw [hW] at HB hx
  have c0 := hx.cell (j := 0) rfl
  have c1 := hx.cell (j := 1) rfl
  have c2 := hx.cell (j := 2) rfl
  have c3 := hx.cell (j := 3) rfl
  have c4 := hx.cell (j := 4) rfl
  have c5 := hx.cell (j := 5) rfl
  clear hx
  have m0 := fun w => isAddress_any a w
  cases h0 : within a 1 99 with
  | false =>
    rw [h0] at m0
    have n0 := hid m0
    clear m0
    have HR : Hid (dgramOk ⟨a, b, c, p, m, s⟩ = false) := dgramOk_no fun h => by rw [within_iff.2 h.1] at h0; cases h0
    clear h0
    go_enter Tryd.func30, Tryd.ntmps30
    go_wp2_with (first | (go_at_call 41; with_reducible refine Calls.mono (n0.out _) ?_; rintro e w1 ⟨rfl, hw⟩; rw [hw]; clear hw w1) | fail)
    go_ret
    exact ⟨by rw [HR.out]; rfl, HB.out⟩
  | true =>
    rw [h0] at m0
    have n0 := hid m0
    clear m0
    have m1 := fun w => isAddress_any b w
    cases h1 : within b 1 99 with
    | false =>
      rw [h1] at m1
      have n1 := hid m1
      clear m1
      have HR : Hid (dgramOk ⟨a, b, c, p, m, s⟩ = false) := dgramOk_no fun h => by rw [within_iff.2 h.2.1] at h1; cases h1
      clear h0 h1
      go_enter Tryd.func30, Tryd.ntmps30
      go_wp2_with (first | (go_at_call 41; with_reducible refine Calls.mono (n0.out _) ?_; rintro e w1 ⟨rfl, hw⟩; rw [hw]; clear hw w1) | (go_at_call 41; with_reducible refine Calls.mono (n1.out _) ?_; rintro e w1 ⟨rfl, hw⟩; rw [hw]; clear hw w1) | fail)
      go_ret
      exact ⟨by rw [HR.out]; rfl, HB.out⟩
    | true =>
      rw [h1] at m1
      have n1 := hid m1
      clear m1
      by_cases q0 : 0 ≤ c
      rotate_left
      · have HR : Hid (dgramOk ⟨a, b, c, p, m, s⟩ = false) := dgramOk_no fun h => by have h1 := h.2.2.1; have h2 := h.2.2.2.1; dsimp only at h1 h2; omega
        clear h0 h1
        go_enter Tryd.func30, Tryd.ntmps30
        go_wp2_with (first | (go_at_call 41; with_reducible refine Calls.mono (n0.out _) ?_; rintro e w1 ⟨rfl, hw⟩; rw [hw]; clear hw w1) | (go_at_call 41; with_reducible refine Calls.mono (n1.out _) ?_; rintro e w1 ⟨rfl, hw⟩; rw [hw]; clear hw w1) | fail)
        go_ret
        exact ⟨by rw [HR.out]; rfl, HB.out⟩
      by_cases q1 : c ≤ 65535
      rotate_left
      · have HR : Hid (dgramOk ⟨a, b, c, p, m, s⟩ = false) := dgramOk_no fun h => by have h1 := h.2.2.1; have h2 := h.2.2.2.1; dsimp only at h1 h2; omega
        clear h0 h1
        go_enter Tryd.func30, Tryd.ntmps30
        go_wp2_with (first | (go_at_call 41; with_reducible refine Calls.mono (n0.out _) ?_; rintro e w1 ⟨rfl, hw⟩; rw [hw]; clear hw w1) | (go_at_call 41; with_reducible refine Calls.mono (n1.out _) ?_; rintro e w1 ⟨rfl, hw⟩; rw [hw]; clear hw w1) | fail)
        go_ret
        exact ⟨by rw [HR.out]; rfl, HB.out⟩
      by_cases q2 : 0 ≤ p
      rotate_left
      · have HR : Hid (dgramOk ⟨a, b, c, p, m, s⟩ = false) := dgramOk_no fun h => by have h1 := h.2.2.2.1; have h2 := h.2.2.2.1; dsimp only at h1 h2; omega
        clear h0 h1
        go_enter Tryd.func30, Tryd.ntmps30
        go_wp2_with (first | (go_at_call 41; with_reducible refine Calls.mono (n0.out _) ?_; rintro e w1 ⟨rfl, hw⟩; rw [hw]; clear hw w1) | (go_at_call 41; with_reducible refine Calls.mono (n1.out _) ?_; rintro e w1 ⟨rfl, hw⟩; rw [hw]; clear hw w1) | fail)
        go_ret
        exact ⟨by rw [HR.out]; rfl, HB.out⟩
      by_cases q3 : p ≤ 160
      rotate_left
      · have HR : Hid (dgramOk ⟨a, b, c, p, m, s⟩ = false) := dgramOk_no fun h => by have h1 := h.2.2.2.1; have h2 := h.2.2.2.1; dsimp only at h1 h2; omega
        clear h0 h1
        go_enter Tryd.func30, Tryd.ntmps30
        go_wp2_with (first | (go_at_call 41; with_reducible refine Calls.mono (n0.out _) ?_; rintro e w1 ⟨rfl, hw⟩; rw [hw]; clear hw w1) | (go_at_call 41; with_reducible refine Calls.mono (n1.out _) ?_; rintro e w1 ⟨rfl, hw⟩; rw [hw]; clear hw w1) | fail)
        go_ret
        exact ⟨by rw [HR.out]; rfl, HB.out⟩
      have hpm : p.tmod 8 = p % 8 := Int.tmod_eq_emod_of_nonneg (by omega)
      by_cases q4 : p % 8 = 0
      rotate_left
      · have HR : Hid (dgramOk ⟨a, b, c, p, m, s⟩ = false) := dgramOk_no fun h => by have h1 := h.2.2.2.2.1; have h2 := h.2.2.2.1; dsimp only at h1 h2; omega
        clear h0 h1
        have g8 : (p % 8 == 0) = false := by simpa using q4
        go_enter Tryd.func30, Tryd.ntmps30
        go_wp2_with (first | (go_at_call 41; with_reducible refine Calls.mono (n0.out _) ?_; rintro e w1 ⟨rfl, hw⟩; rw [hw]; clear hw w1) | (go_at_call 41; with_reducible refine Calls.mono (n1.out _) ?_; rintro e w1 ⟨rfl, hw⟩; rw [hw]; clear hw w1) | fail)
        go_ret
        exact ⟨by rw [HR.out]; rfl, HB.out⟩
      by_cases q5 : 1 ≤ (s.size : Int)
      rotate_left
      · have HR : Hid (dgramOk ⟨a, b, c, p, m, s⟩ = false) := dgramOk_no fun h => by have h1 := h.2.2.2.2.2.1; have h2 := h.2.2.2.1; dsimp only at h1 h2; omega
        clear h0 h1
        go_enter Tryd.func30, Tryd.ntmps30
        go_wp2_with (first | (go_at_call 41; with_reducible refine Calls.mono (n0.out _) ?_; rintro e w1 ⟨rfl, hw⟩; rw [hw]; clear hw w1) | (go_at_call 41; with_reducible refine Calls.mono (n1.out _) ?_; rintro e w1 ⟨rfl, hw⟩; rw [hw]; clear hw w1) | fail)
        go_ret
        exact ⟨by rw [HR.out]; rfl, HB.out⟩
      by_cases q6 : (s.size : Int) ≤ 160
      rotate_left
      · have HR : Hid (dgramOk ⟨a, b, c, p, m, s⟩ = false) := dgramOk_no fun h => by have h1 := h.2.2.2.2.2.1; have h2 := h.2.2.2.1; dsimp only at h1 h2; omega
        clear h0 h1
        go_enter Tryd.func30, Tryd.ntmps30
        go_wp2_with (first | (go_at_call 41; with_reducible refine Calls.mono (n0.out _) ?_; rintro e w1 ⟨rfl, hw⟩; rw [hw]; clear hw w1) | (go_at_call 41; with_reducible refine Calls.mono (n1.out _) ?_; rintro e w1 ⟨rfl, hw⟩; rw [hw]; clear hw w1) | fail)
        go_ret
        exact ⟨by rw [HR.out]; rfl, HB.out⟩
      by_cases q7 : p + (s.size : Int) ≤ 160
      rotate_left
      · have HR : Hid (dgramOk ⟨a, b, c, p, m, s⟩ = false) := dgramOk_no fun h => by have h1 := h.2.2.2.2.2.1; have h2 := h.2.2.2.1; dsimp only at h1 h2; omega
        clear h0 h1
        go_enter Tryd.func30, Tryd.ntmps30
        go_wp2_with (first | (go_at_call 41; with_reducible refine Calls.mono (n0.out _) ?_; rintro e w1 ⟨rfl, hw⟩; rw [hw]; clear hw w1) | (go_at_call 41; with_reducible refine Calls.mono (n1.out _) ?_; rintro e w1 ⟨rfl, hw⟩; rw [hw]; clear hw w1) | fail)
        go_ret
        exact ⟨by rw [HR.out]; rfl, HB.out⟩
      have g8 : (p % 8 == 0) = true := by simpa using q4
      have hsm : ((s.size : Int)).tmod 8 = (s.size : Int) % 8 := Int.tmod_eq_emod_of_nonneg (by omega)
      cases m with
      | false =>
        have HR := hid (dgramOk_yes (d := ⟨a, b, c, p, false, s⟩) (within_iff.1 h0) (within_iff.1 h1) ⟨q0, q1⟩ ⟨q2, q3⟩ q4 ⟨q5, (show (s.size : Int) ≤ 160 - p by omega)⟩ (fun h => by cases h))
        clear h0 h1
        go_enter Tryd.func30, Tryd.ntmps30
        go_wp2_with (first | (go_at_call 41; with_reducible refine Calls.mono (n0.out _) ?_; rintro e w1 ⟨rfl, hw⟩; rw [hw]; clear hw w1) | (go_at_call 41; with_reducible refine Calls.mono (n1.out _) ?_; rintro e w1 ⟨rfl, hw⟩; rw [hw]; clear hw w1) | fail)
        go_ret
        exact ⟨by rw [HR.out]; rfl, HB.out⟩
      | true =>
        by_cases e9 : s.size % 8 = 0
        · have g9 : ((s.size : Int) % 8 == 0) = true := by rw [beq_iff_eq]; omega
          have HR := hid (dgramOk_yes (d := ⟨a, b, c, p, true, s⟩) (within_iff.1 h0) (within_iff.1 h1) ⟨q0, q1⟩ ⟨q2, q3⟩ q4 ⟨q5, (show (s.size : Int) ≤ 160 - p by omega)⟩ (fun _ => e9))
          clear h0 h1
          go_enter Tryd.func30, Tryd.ntmps30
          go_wp2_with (first | (go_at_call 41; with_reducible refine Calls.mono (n0.out _) ?_; rintro e w1 ⟨rfl, hw⟩; rw [hw]; clear hw w1) | (go_at_call 41; with_reducible refine Calls.mono (n1.out _) ?_; rintro e w1 ⟨rfl, hw⟩; rw [hw]; clear hw w1) | fail)
          go_ret
          exact ⟨by rw [HR.out]; rfl, HB.out⟩
        · have g9 : ((s.size : Int) % 8 == 0) = false := by rw [beq_eq_false_iff_ne]; omega
          have HR : Hid (dgramOk ⟨a, b, c, p, true, s⟩ = false) := dgramOk_no fun h => e9 (h.2.2.2.2.2.2 rfl)
          clear h0 h1
          go_enter Tryd.func30, Tryd.ntmps30
          go_wp2_with (first | (go_at_call 41; with_reducible refine Calls.mono (n0.out _) ?_; rintro e w1 ⟨rfl, hw⟩; rw [hw]; clear hw w1) | (go_at_call 41; with_reducible refine Calls.mono (n1.out _) ?_; rintro e w1 ⟨rfl, hw⟩; rw [hw]; clear hw w1) | fail)
          go_ret
          exact ⟨by rw [HR.out]; rfl, HB.out⟩
end Go.Proofs.YthkkhmmcgjcedaaDoor
