/-
  The walk of spec.DgramOk: what it answers.
-/
import Derived.Test.YthkkhmmcgjcedaaDoorJoint1
import Derived.Test.YthkkhmmcgjcedaaDoorJoint5
import Derived.Test.YthkkhmmcgjcedaaDoorRows
namespace Go.Proofs.YthkkhmmcgjcedaaDoor
open Go.RowKit

set_option maxRecDepth 1000000 in
set_option maxHeartbeats 2000000 in
theorem specDgramOk_any (d : DgramD) (hs : d.body.size ≤ 9223372036854775000) (w : World) :
    Calls Tryd.prog 22 #[.agg #[.int .i64 d.src, .int .i64 d.dst, .int .i64 d.ident, .int .i64 d.place, .bool d.more, .string d.body]] w fun e w' => e = .returned (.bool (dgramOk d)) ∧ Below w.heap.size w w' := by
  obtain ⟨a, b, c, p, m, s⟩ := d
  dsimp only at hs ⊢
  have HB := hid (below_more (Below.refl w.heap.size w) (.cells #[.int .i64 a, .int .i64 b, .int .i64 c, .int .i64 p, .bool m, .string s] 36))
  have hx : BlockIs (w.alloc (.cells #[.int .i64 a, .int .i64 b, .int .i64 c, .int .i64 p, .bool m, .string s] 36)) w.heap.size 36 [.int .i64 a, .int .i64 b, .int .i64 c, .int .i64 p, .bool m, .string s] := heap_alloc_new w _
  obtain ⟨W, hW⟩ : ∃ W, w.alloc (.cells #[.int .i64 a, .int .i64 b, .int .i64 c, .int .i64 p, .bool m, .string s] 36) = W := ⟨_, rfl⟩
  rw [hW] at HB hx
  have c0 := hx.cell (j := 0) rfl
  have c1 := hx.cell (j := 1) rfl
  have c2 := hx.cell (j := 2) rfl
  have c3 := hx.cell (j := 3) rfl
  have c4 := hx.cell (j := 4) rfl
  have c5 := hx.cell (j := 5) rfl
  clear hx
  have m0 := fun w => l01In_any a 1 99 w
  cases h0 : within a 1 99 with
  | false =>
    rw [h0] at m0
    have n0 := hid m0
    clear m0
    have HR : Hid (dgramOk ⟨a, b, c, p, m, s⟩ = false) := by show _ = _; simp [dgramOk, h0]
    clear h0
    go_enter Tryd.func22, Tryd.ntmps22
    go_wp2_with (first | (go_at_call 23; with_reducible refine Calls.mono (n0.out _) ?_; rintro e w1 ⟨rfl, hw⟩; rw [hw]; clear hw w1))
    go_ret
    exact ⟨by rw [HR.out]; rfl, HB.out⟩
  | true =>
    rw [h0] at m0
    have n0 := hid m0
    clear m0
    have m1 := fun w => l01In_any b 1 99 w
    cases h1 : within b 1 99 with
    | false =>
      rw [h1] at m1
      have n1 := hid m1
      clear m1
      have HR : Hid (dgramOk ⟨a, b, c, p, m, s⟩ = false) := by show _ = _; simp [dgramOk, h0, h1]
      clear h0 h1
      go_enter Tryd.func22, Tryd.ntmps22
      go_wp2_with (first | (go_at_call 23; with_reducible refine Calls.mono (n0.out _) ?_; rintro e w1 ⟨rfl, hw⟩; rw [hw]; clear hw w1) | (go_at_call 23; with_reducible refine Calls.mono (n1.out _) ?_; rintro e w1 ⟨rfl, hw⟩; rw [hw]; clear hw w1))
      go_ret
      exact ⟨by rw [HR.out]; rfl, HB.out⟩
    | true =>
      rw [h1] at m1
      have n1 := hid m1
      clear m1
      have m2 := fun w => l01In_any c 0 65535 w
      cases h2 : within c 0 65535 with
      | false =>
        rw [h2] at m2
        have n2 := hid m2
        clear m2
        have HR : Hid (dgramOk ⟨a, b, c, p, m, s⟩ = false) := by show _ = _; simp [dgramOk, h0, h1, h2]
        clear h0 h1 h2
        go_enter Tryd.func22, Tryd.ntmps22
        go_wp2_with (first | (go_at_call 23; with_reducible refine Calls.mono (n0.out _) ?_; rintro e w1 ⟨rfl, hw⟩; rw [hw]; clear hw w1) | (go_at_call 23; with_reducible refine Calls.mono (n1.out _) ?_; rintro e w1 ⟨rfl, hw⟩; rw [hw]; clear hw w1) | (go_at_call 23; with_reducible refine Calls.mono (n2.out _) ?_; rintro e w1 ⟨rfl, hw⟩; rw [hw]; clear hw w1))
        go_ret
        exact ⟨by rw [HR.out]; rfl, HB.out⟩
      | true =>
        rw [h2] at m2
        have n2 := hid m2
        clear m2
        have m3 := fun w => l01In_any p 0 160 w
        cases h3 : within p 0 160 with
        | false =>
          rw [h3] at m3
          have n3 := hid m3
          clear m3
          have HR : Hid (dgramOk ⟨a, b, c, p, m, s⟩ = false) := by show _ = _; simp [dgramOk, h0, h1, h2, h3]
          clear h0 h1 h2 h3
          go_enter Tryd.func22, Tryd.ntmps22
          go_wp2_with (first | (go_at_call 23; with_reducible refine Calls.mono (n0.out _) ?_; rintro e w1 ⟨rfl, hw⟩; rw [hw]; clear hw w1) | (go_at_call 23; with_reducible refine Calls.mono (n1.out _) ?_; rintro e w1 ⟨rfl, hw⟩; rw [hw]; clear hw w1) | (go_at_call 23; with_reducible refine Calls.mono (n2.out _) ?_; rintro e w1 ⟨rfl, hw⟩; rw [hw]; clear hw w1) | (go_at_call 23; with_reducible refine Calls.mono (n3.out _) ?_; rintro e w1 ⟨rfl, hw⟩; rw [hw]; clear hw w1))
          go_ret
          exact ⟨by rw [HR.out]; rfl, HB.out⟩
        | true =>
          rw [h3] at m3
          have n3 := hid m3
          clear m3
          have hpb := within_iff.1 h3
          have hpm : p.tmod 8 = p % 8 := Int.tmod_eq_emod_of_nonneg (by omega)
          by_cases e8 : p % 8 = 0
          · have g8 : (p % 8 == 0) = true := by simpa using e8
            have hm4 := fun w => l01In_any (s.size : Int) 1 (160 - p) w
            cases h4 : within (s.size : Int) 1 (160 - p) with
            | false =>
              rw [h4] at hm4
              have n4 := hid hm4
              clear hm4
              have HR : Hid (dgramOk ⟨a, b, c, p, m, s⟩ = false) := by show _ = _; simp [dgramOk, h0, h1, h2, h3, e8, h4]
              clear h0 h1 h2 h3 h4
              go_enter Tryd.func22, Tryd.ntmps22
              go_wp2_with (first | (go_at_call 23; with_reducible refine Calls.mono (n0.out _) ?_; rintro e w1 ⟨rfl, hw⟩; rw [hw]; clear hw w1) | (go_at_call 23; with_reducible refine Calls.mono (n1.out _) ?_; rintro e w1 ⟨rfl, hw⟩; rw [hw]; clear hw w1) | (go_at_call 23; with_reducible refine Calls.mono (n2.out _) ?_; rintro e w1 ⟨rfl, hw⟩; rw [hw]; clear hw w1) | (go_at_call 23; with_reducible refine Calls.mono (n3.out _) ?_; rintro e w1 ⟨rfl, hw⟩; rw [hw]; clear hw w1) | (go_at_call 23; with_reducible refine Calls.mono (n4.out _) ?_; rintro e w1 ⟨rfl, hw⟩; rw [hw]; clear hw w1))
              go_ret
              exact ⟨by rw [HR.out]; rfl, HB.out⟩
            | true =>
              rw [h4] at hm4
              have n4 := hid hm4
              clear hm4
              cases m with
              | false =>
                have HR : Hid (dgramOk ⟨a, b, c, p, false, s⟩ = true) := by show _ = _; simp [dgramOk, h0, h1, h2, h3, e8, h4]
                clear h0 h1 h2 h3 h4
                go_enter Tryd.func22, Tryd.ntmps22
                go_wp2_with (first | (go_at_call 23; with_reducible refine Calls.mono (n0.out _) ?_; rintro e w1 ⟨rfl, hw⟩; rw [hw]; clear hw w1) | (go_at_call 23; with_reducible refine Calls.mono (n1.out _) ?_; rintro e w1 ⟨rfl, hw⟩; rw [hw]; clear hw w1) | (go_at_call 23; with_reducible refine Calls.mono (n2.out _) ?_; rintro e w1 ⟨rfl, hw⟩; rw [hw]; clear hw w1) | (go_at_call 23; with_reducible refine Calls.mono (n3.out _) ?_; rintro e w1 ⟨rfl, hw⟩; rw [hw]; clear hw w1) | (go_at_call 23; with_reducible refine Calls.mono (n4.out _) ?_; rintro e w1 ⟨rfl, hw⟩; rw [hw]; clear hw w1))
                go_ret
                exact ⟨by rw [HR.out]; rfl, HB.out⟩
              | true =>
                have hsm : ((s.size : Int)).tmod 8 = (s.size : Int) % 8 := Int.tmod_eq_emod_of_nonneg (by omega)
                by_cases e9 : s.size % 8 = 0
                · have g9 : ((s.size : Int) % 8 == 0) = true := by rw [beq_iff_eq]; omega
                  have HR : Hid (dgramOk ⟨a, b, c, p, true, s⟩ = true) := by show _ = _; simp [dgramOk, h0, h1, h2, h3, e8, h4, e9]
                  clear h0 h1 h2 h3 h4
                  go_enter Tryd.func22, Tryd.ntmps22
                  go_wp2_with (first | (go_at_call 23; with_reducible refine Calls.mono (n0.out _) ?_; rintro e w1 ⟨rfl, hw⟩; rw [hw]; clear hw w1) | (go_at_call 23; with_reducible refine Calls.mono (n1.out _) ?_; rintro e w1 ⟨rfl, hw⟩; rw [hw]; clear hw w1) | (go_at_call 23; with_reducible refine Calls.mono (n2.out _) ?_; rintro e w1 ⟨rfl, hw⟩; rw [hw]; clear hw w1) | (go_at_call 23; with_reducible refine Calls.mono (n3.out _) ?_; rintro e w1 ⟨rfl, hw⟩; rw [hw]; clear hw w1) | (go_at_call 23; with_reducible refine Calls.mono (n4.out _) ?_; rintro e w1 ⟨rfl, hw⟩; rw [hw]; clear hw w1))
                  go_ret
                  exact ⟨by rw [HR.out]; rfl, HB.out⟩
                · have g9 : ((s.size : Int) % 8 == 0) = false := by rw [beq_eq_false_iff_ne]; omega
                  have HR : Hid (dgramOk ⟨a, b, c, p, true, s⟩ = false) := by show _ = _; simp [dgramOk, h0, h1, h2, h3, e8, h4, e9]
                  clear h0 h1 h2 h3 h4
                  go_enter Tryd.func22, Tryd.ntmps22
                  go_wp2_with (first | (go_at_call 23; with_reducible refine Calls.mono (n0.out _) ?_; rintro e w1 ⟨rfl, hw⟩; rw [hw]; clear hw w1) | (go_at_call 23; with_reducible refine Calls.mono (n1.out _) ?_; rintro e w1 ⟨rfl, hw⟩; rw [hw]; clear hw w1) | (go_at_call 23; with_reducible refine Calls.mono (n2.out _) ?_; rintro e w1 ⟨rfl, hw⟩; rw [hw]; clear hw w1) | (go_at_call 23; with_reducible refine Calls.mono (n3.out _) ?_; rintro e w1 ⟨rfl, hw⟩; rw [hw]; clear hw w1) | (go_at_call 23; with_reducible refine Calls.mono (n4.out _) ?_; rintro e w1 ⟨rfl, hw⟩; rw [hw]; clear hw w1))
                  go_ret
                  exact ⟨by rw [HR.out]; rfl, HB.out⟩
          · have g8 : (p % 8 == 0) = false := by simpa using e8
            have HR : Hid (dgramOk ⟨a, b, c, p, m, s⟩ = false) := by show _ = _; simp [dgramOk, h0, h1, h2, h3, e8]
            clear h0 h1 h2 h3
            go_enter Tryd.func22, Tryd.ntmps22
            go_wp2_with (first | (go_at_call 23; with_reducible refine Calls.mono (n0.out _) ?_; rintro e w1 ⟨rfl, hw⟩; rw [hw]; clear hw w1) | (go_at_call 23; with_reducible refine Calls.mono (n1.out _) ?_; rintro e w1 ⟨rfl, hw⟩; rw [hw]; clear hw w1) | (go_at_call 23; with_reducible refine Calls.mono (n2.out _) ?_; rintro e w1 ⟨rfl, hw⟩; rw [hw]; clear hw w1) | (go_at_call 23; with_reducible refine Calls.mono (n3.out _) ?_; rintro e w1 ⟨rfl, hw⟩; rw [hw]; clear hw w1))
            go_ret
            exact ⟨by rw [HR.out]; rfl, HB.out⟩
end Go.Proofs.YthkkhmmcgjcedaaDoor
