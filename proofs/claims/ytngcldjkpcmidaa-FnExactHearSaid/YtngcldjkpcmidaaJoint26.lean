/-
  The walk of spec.SegOk: what it answers.
-/
import Derived.Test.YtngcldjkpcmidaaJoint1
import Derived.Test.YtngcldjkpcmidaaJoint24
import Derived.Test.YtngcldjkpcmidaaJoint21
import Derived.Test.YtngcldjkpcmidaaRows
namespace Go.Proofs.Ytngcldjkpcmidaa
open Go.RowKit

set_option maxRecDepth 1000000 in
set_option maxHeartbeats 4000000 in
theorem specSegOk_any (d : SegD) (hs : d.body.size ≤ 9223372036854775000) (w : World) :
    Calls Try.prog 19 #[.agg #[.int .i64 d.num, .int .i64 d.ack, .int .i64 d.flags, .string d.body]] w fun e w' => e = .returned (.bool (segOk d)) ∧ Below w.heap.size w w' := by
  obtain ⟨a, b, f, s⟩ := d
  dsimp only at hs ⊢
  have HB := hid (below_more (Below.refl w.heap.size w) (.cells #[.int .i64 a, .int .i64 b, .int .i64 f, .string s] 34))
  have hx : BlockIs (w.alloc (.cells #[.int .i64 a, .int .i64 b, .int .i64 f, .string s] 34)) w.heap.size 34 [.int .i64 a, .int .i64 b, .int .i64 f, .string s] := heap_alloc_new w _
  obtain ⟨W, hW⟩ : ∃ W, w.alloc (.cells #[.int .i64 a, .int .i64 b, .int .i64 f, .string s] 34) = W := ⟨_, rfl⟩
  rw [hW] at HB hx
  have X0 := hid hx
  have c0 := hx.cell (j := 0) rfl
  have c1 := hx.cell (j := 1) rfl
  have c2 := hx.cell (j := 2) rfl
  have c3 := hx.cell (j := 3) rfl
  clear hx
  have m0 := fun w => l01In_any a 0 65535 w
  cases h0 : within a 0 65535 with
  | false =>
    rw [h0] at m0
    have n0 := hid m0
    clear m0
    have HR : Hid (segOk ⟨a, b, f, s⟩ = false) := segOk_no fun h => by rw [within_iff.2 h.1] at h0; cases h0
    clear h0
    go_enter Try.func19, Try.ntmps19
    go_wp2_with (first | (go_at_call 33; with_reducible refine Calls.mono (n0.out _) ?_; rintro e w1 ⟨rfl, hw⟩; rw [hw]; clear hw w1) | fail)
    go_ret
    exact ⟨by rw [HR.out]; rfl, HB.out⟩
  | true =>
    rw [h0] at m0
    have n0 := hid m0
    clear m0
    have m1 := fun w => l01In_any b 0 65535 w
    cases h1 : within b 0 65535 with
    | false =>
      rw [h1] at m1
      have n1 := hid m1
      clear m1
      have HR : Hid (segOk ⟨a, b, f, s⟩ = false) := segOk_no fun h => by rw [within_iff.2 h.2.1] at h1; cases h1
      clear h0 h1
      go_enter Try.func19, Try.ntmps19
      go_wp2_with (first | (go_at_call 33; with_reducible refine Calls.mono (n0.out _) ?_; rintro e w1 ⟨rfl, hw⟩; rw [hw]; clear hw w1) | (go_at_call 33; with_reducible refine Calls.mono (n1.out _) ?_; rintro e w1 ⟨rfl, hw⟩; rw [hw]; clear hw w1) | fail)
      go_ret
      exact ⟨by rw [HR.out]; rfl, HB.out⟩
    | true =>
      rw [h1] at m1
      have n1 := hid m1
      clear m1
      have m2 := fun w => l01In_any f 0 7 w
      cases h2 : within f 0 7 with
      | false =>
        rw [h2] at m2
        have n2 := hid m2
        clear m2
        have HR : Hid (segOk ⟨a, b, f, s⟩ = false) := segOk_no fun h => by rw [within_iff.2 h.2.2.1] at h2; cases h2
        clear h0 h1 h2
        go_enter Try.func19, Try.ntmps19
        go_wp2_with (first | (go_at_call 33; with_reducible refine Calls.mono (n0.out _) ?_; rintro e w1 ⟨rfl, hw⟩; rw [hw]; clear hw w1) | (go_at_call 33; with_reducible refine Calls.mono (n1.out _) ?_; rintro e w1 ⟨rfl, hw⟩; rw [hw]; clear hw w1) | (go_at_call 33; with_reducible refine Calls.mono (n2.out _) ?_; rintro e w1 ⟨rfl, hw⟩; rw [hw]; clear hw w1) | fail)
        go_ret
        exact ⟨by rw [HR.out]; rfl, HB.out⟩
      | true =>
        rw [h2] at m2
        have n2 := hid m2
        clear m2
        have p0 := within_iff.1 h0
        have p1 := within_iff.1 h1
        have p2 := within_iff.1 h2
        clear h0 h1 h2
        obtain ⟨q1, q2⟩ := p2
        by_cases q3 : (s.size : Int) ≤ 8
        rotate_left
        · have HR : Hid (segOk ⟨a, b, f, s⟩ = false) := segOk_no fun h => by have h9 := h.2.2.2.1; dsimp only at h9; omega
          go_enter Try.func19, Try.ntmps19
          go_wp2_with (first | (go_at_call 33; with_reducible refine Calls.mono (n0.out _) ?_; rintro e w1 ⟨rfl, hw⟩; rw [hw]; clear hw w1) | (go_at_call 33; with_reducible refine Calls.mono (n1.out _) ?_; rintro e w1 ⟨rfl, hw⟩; rw [hw]; clear hw w1) | (go_at_call 33; with_reducible refine Calls.mono (n2.out _) ?_; rintro e w1 ⟨rfl, hw⟩; rw [hw]; clear hw w1) | fail)
          go_ret
          exact ⟨by rw [HR.out]; rfl, HB.out⟩
        have HE : Hid (segOk ⟨a, b, f, s⟩ = ((!decide (f % 2 = 1) || decide (s.size = 0)) && (decide (f / 2 % 2 = 1) || decide (b = 0)))) := by show _ = _; simp only [segOk, within_yes p0.1 p0.2, within_yes p1.1 p1.2, within_yes q1 q2, q3, decide_true, Bool.true_and]
        clear p0 p1
        by_cases f1 : f % 2 = 1
        · by_cases z : s.size = 0
          · have hse : (s.toList == []) = true := by rw [beq_iff_eq, ByteArray.toList_eq]; exact List.eq_nil_of_length_eq_zero z
            by_cases f2 : f / 2 % 2 = 1
            · skip
              have L1 := hid (fun W => l12Has_one a b f s q1 q2 W)
              have L2 := hid (fun W => l12Has_two a b f s q1 q2 W)
              rw [decide_eq_true f1] at L1
              rw [decide_eq_true f2] at L2
              have HR : Hid (segOk ⟨a, b, f, s⟩ = true) := by show _ = _; rw [HE.out]; simp [f1, f2, z]
              clear HE
              go_enter Try.func19, Try.ntmps19
              go_wp2_with (first | (go_at_call 33; with_reducible refine Calls.mono (n0.out _) ?_; rintro e w1 ⟨rfl, hw⟩; rw [hw]; clear hw w1) | (go_at_call 33; with_reducible refine Calls.mono (n1.out _) ?_; rintro e w1 ⟨rfl, hw⟩; rw [hw]; clear hw w1) | (go_at_call 33; with_reducible refine Calls.mono (n2.out _) ?_; rintro e w1 ⟨rfl, hw⟩; rw [hw]; clear hw w1) | (go_at_call 20; with_reducible refine Calls.mono (L1.out _) ?_; rintro e w1 ⟨rfl, b9⟩; have X1 := hid (X0.out.on b9 X0.out.lt); have HB1 := hid (below_via HB.out b9); have d0 := X1.out.cell (j := 0) rfl; have d1 := X1.out.cell (j := 1) rfl; have d2 := X1.out.cell (j := 2) rfl; have d3 := X1.out.cell (j := 3) rfl; clear b9 X0 HB c0 c1 c2 c3) | (go_at_call 20; with_reducible refine Calls.mono (L2.out _) ?_; rintro e w1 ⟨rfl, b9⟩; have X2 := hid (X1.out.on b9 X1.out.lt); have HB2 := hid (below_via HB1.out b9); have g0 := X2.out.cell (j := 0) rfl; have g1 := X2.out.cell (j := 1) rfl; have g2 := X2.out.cell (j := 2) rfl; have g3 := X2.out.cell (j := 3) rfl; clear b9 X1 HB1 d0 d1 d2 d3) | fail)
              go_ret
              exact ⟨by rw [HR.out]; rfl, HB2.out⟩
            · by_cases zb : b = 0
              · skip
                have L1 := hid (fun W => l12Has_one a b f s q1 q2 W)
                have L2 := hid (fun W => l12Has_two a b f s q1 q2 W)
                rw [decide_eq_true f1] at L1
                rw [decide_eq_false f2] at L2
                have HR : Hid (segOk ⟨a, b, f, s⟩ = true) := by show _ = _; rw [HE.out]; simp [f1, f2, z, zb]
                subst zb
                clear HE
                go_enter Try.func19, Try.ntmps19
                go_wp2_with (first | (go_at_call 33; with_reducible refine Calls.mono (n0.out _) ?_; rintro e w1 ⟨rfl, hw⟩; rw [hw]; clear hw w1) | (go_at_call 33; with_reducible refine Calls.mono (n1.out _) ?_; rintro e w1 ⟨rfl, hw⟩; rw [hw]; clear hw w1) | (go_at_call 33; with_reducible refine Calls.mono (n2.out _) ?_; rintro e w1 ⟨rfl, hw⟩; rw [hw]; clear hw w1) | (go_at_call 20; with_reducible refine Calls.mono (L1.out _) ?_; rintro e w1 ⟨rfl, b9⟩; have X1 := hid (X0.out.on b9 X0.out.lt); have HB1 := hid (below_via HB.out b9); have d0 := X1.out.cell (j := 0) rfl; have d1 := X1.out.cell (j := 1) rfl; have d2 := X1.out.cell (j := 2) rfl; have d3 := X1.out.cell (j := 3) rfl; clear b9 X0 HB c0 c1 c2 c3) | (go_at_call 20; with_reducible refine Calls.mono (L2.out _) ?_; rintro e w1 ⟨rfl, b9⟩; have X2 := hid (X1.out.on b9 X1.out.lt); have HB2 := hid (below_via HB1.out b9); have g0 := X2.out.cell (j := 0) rfl; have g1 := X2.out.cell (j := 1) rfl; have g2 := X2.out.cell (j := 2) rfl; have g3 := X2.out.cell (j := 3) rfl; clear b9 X1 HB1 d0 d1 d2 d3) | fail)
                go_ret
                exact ⟨by rw [HR.out]; rfl, HB2.out⟩
              · skip
                have L1 := hid (fun W => l12Has_one a b f s q1 q2 W)
                have L2 := hid (fun W => l12Has_two a b f s q1 q2 W)
                rw [decide_eq_true f1] at L1
                rw [decide_eq_false f2] at L2
                have HR : Hid (segOk ⟨a, b, f, s⟩ = false) := by show _ = _; rw [HE.out]; simp [f1, f2, z, zb]
                have zb2 : (b == 0) = false := by rw [beq_eq_false_iff_ne]; exact zb
                clear HE
                go_enter Try.func19, Try.ntmps19
                go_wp2_with (first | (go_at_call 33; with_reducible refine Calls.mono (n0.out _) ?_; rintro e w1 ⟨rfl, hw⟩; rw [hw]; clear hw w1) | (go_at_call 33; with_reducible refine Calls.mono (n1.out _) ?_; rintro e w1 ⟨rfl, hw⟩; rw [hw]; clear hw w1) | (go_at_call 33; with_reducible refine Calls.mono (n2.out _) ?_; rintro e w1 ⟨rfl, hw⟩; rw [hw]; clear hw w1) | (go_at_call 20; with_reducible refine Calls.mono (L1.out _) ?_; rintro e w1 ⟨rfl, b9⟩; have X1 := hid (X0.out.on b9 X0.out.lt); have HB1 := hid (below_via HB.out b9); have d0 := X1.out.cell (j := 0) rfl; have d1 := X1.out.cell (j := 1) rfl; have d2 := X1.out.cell (j := 2) rfl; have d3 := X1.out.cell (j := 3) rfl; clear b9 X0 HB c0 c1 c2 c3) | (go_at_call 20; with_reducible refine Calls.mono (L2.out _) ?_; rintro e w1 ⟨rfl, b9⟩; have X2 := hid (X1.out.on b9 X1.out.lt); have HB2 := hid (below_via HB1.out b9); have g0 := X2.out.cell (j := 0) rfl; have g1 := X2.out.cell (j := 1) rfl; have g2 := X2.out.cell (j := 2) rfl; have g3 := X2.out.cell (j := 3) rfl; clear b9 X1 HB1 d0 d1 d2 d3) | fail)
                go_ret
                exact ⟨by rw [HR.out]; rfl, HB2.out⟩
          · have hse : (s.toList == []) = false := by rw [beq_eq_false_iff_ne, ByteArray.toList_eq]; intro h; exact z (show s.data.toList.length = 0 by rw [h]; rfl)
            have L1 := hid (fun W => l12Has_one a b f s q1 q2 W)
            rw [decide_eq_true f1] at L1
            have HR : Hid (segOk ⟨a, b, f, s⟩ = false) := by show _ = _; rw [HE.out]; simp [f1, z]
            clear HE
            go_enter Try.func19, Try.ntmps19
            go_wp2_with (first | (go_at_call 33; with_reducible refine Calls.mono (n0.out _) ?_; rintro e w1 ⟨rfl, hw⟩; rw [hw]; clear hw w1) | (go_at_call 33; with_reducible refine Calls.mono (n1.out _) ?_; rintro e w1 ⟨rfl, hw⟩; rw [hw]; clear hw w1) | (go_at_call 33; with_reducible refine Calls.mono (n2.out _) ?_; rintro e w1 ⟨rfl, hw⟩; rw [hw]; clear hw w1) | (go_at_call 20; with_reducible refine Calls.mono (L1.out _) ?_; rintro e w1 ⟨rfl, b9⟩; have X1 := hid (X0.out.on b9 X0.out.lt); have HB1 := hid (below_via HB.out b9); have d0 := X1.out.cell (j := 0) rfl; have d1 := X1.out.cell (j := 1) rfl; have d2 := X1.out.cell (j := 2) rfl; have d3 := X1.out.cell (j := 3) rfl; clear b9 X0 HB c0 c1 c2 c3) | fail)
            go_ret
            exact ⟨by rw [HR.out]; rfl, HB1.out⟩
        · skip
          by_cases f2 : f / 2 % 2 = 1
          · skip
            have L1 := hid (fun W => l12Has_one a b f s q1 q2 W)
            have L2 := hid (fun W => l12Has_two a b f s q1 q2 W)
            rw [decide_eq_false f1] at L1
            rw [decide_eq_true f2] at L2
            have HR : Hid (segOk ⟨a, b, f, s⟩ = true) := by show _ = _; rw [HE.out]; simp [f1, f2]
            clear HE
            go_enter Try.func19, Try.ntmps19
            go_wp2_with (first | (go_at_call 33; with_reducible refine Calls.mono (n0.out _) ?_; rintro e w1 ⟨rfl, hw⟩; rw [hw]; clear hw w1) | (go_at_call 33; with_reducible refine Calls.mono (n1.out _) ?_; rintro e w1 ⟨rfl, hw⟩; rw [hw]; clear hw w1) | (go_at_call 33; with_reducible refine Calls.mono (n2.out _) ?_; rintro e w1 ⟨rfl, hw⟩; rw [hw]; clear hw w1) | (go_at_call 20; with_reducible refine Calls.mono (L1.out _) ?_; rintro e w1 ⟨rfl, b9⟩; have X1 := hid (X0.out.on b9 X0.out.lt); have HB1 := hid (below_via HB.out b9); have d0 := X1.out.cell (j := 0) rfl; have d1 := X1.out.cell (j := 1) rfl; have d2 := X1.out.cell (j := 2) rfl; have d3 := X1.out.cell (j := 3) rfl; clear b9 X0 HB c0 c1 c2 c3) | (go_at_call 20; with_reducible refine Calls.mono (L2.out _) ?_; rintro e w1 ⟨rfl, b9⟩; have X2 := hid (X1.out.on b9 X1.out.lt); have HB2 := hid (below_via HB1.out b9); have g0 := X2.out.cell (j := 0) rfl; have g1 := X2.out.cell (j := 1) rfl; have g2 := X2.out.cell (j := 2) rfl; have g3 := X2.out.cell (j := 3) rfl; clear b9 X1 HB1 d0 d1 d2 d3) | fail)
            go_ret
            exact ⟨by rw [HR.out]; rfl, HB2.out⟩
          · by_cases zb : b = 0
            · skip
              have L1 := hid (fun W => l12Has_one a b f s q1 q2 W)
              have L2 := hid (fun W => l12Has_two a b f s q1 q2 W)
              rw [decide_eq_false f1] at L1
              rw [decide_eq_false f2] at L2
              have HR : Hid (segOk ⟨a, b, f, s⟩ = true) := by show _ = _; rw [HE.out]; simp [f1, f2, zb]
              subst zb
              clear HE
              go_enter Try.func19, Try.ntmps19
              go_wp2_with (first | (go_at_call 33; with_reducible refine Calls.mono (n0.out _) ?_; rintro e w1 ⟨rfl, hw⟩; rw [hw]; clear hw w1) | (go_at_call 33; with_reducible refine Calls.mono (n1.out _) ?_; rintro e w1 ⟨rfl, hw⟩; rw [hw]; clear hw w1) | (go_at_call 33; with_reducible refine Calls.mono (n2.out _) ?_; rintro e w1 ⟨rfl, hw⟩; rw [hw]; clear hw w1) | (go_at_call 20; with_reducible refine Calls.mono (L1.out _) ?_; rintro e w1 ⟨rfl, b9⟩; have X1 := hid (X0.out.on b9 X0.out.lt); have HB1 := hid (below_via HB.out b9); have d0 := X1.out.cell (j := 0) rfl; have d1 := X1.out.cell (j := 1) rfl; have d2 := X1.out.cell (j := 2) rfl; have d3 := X1.out.cell (j := 3) rfl; clear b9 X0 HB c0 c1 c2 c3) | (go_at_call 20; with_reducible refine Calls.mono (L2.out _) ?_; rintro e w1 ⟨rfl, b9⟩; have X2 := hid (X1.out.on b9 X1.out.lt); have HB2 := hid (below_via HB1.out b9); have g0 := X2.out.cell (j := 0) rfl; have g1 := X2.out.cell (j := 1) rfl; have g2 := X2.out.cell (j := 2) rfl; have g3 := X2.out.cell (j := 3) rfl; clear b9 X1 HB1 d0 d1 d2 d3) | fail)
              go_ret
              exact ⟨by rw [HR.out]; rfl, HB2.out⟩
            · skip
              have L1 := hid (fun W => l12Has_one a b f s q1 q2 W)
              have L2 := hid (fun W => l12Has_two a b f s q1 q2 W)
              rw [decide_eq_false f1] at L1
              rw [decide_eq_false f2] at L2
              have HR : Hid (segOk ⟨a, b, f, s⟩ = false) := by show _ = _; rw [HE.out]; simp [f1, f2, zb]
              have zb2 : (b == 0) = false := by rw [beq_eq_false_iff_ne]; exact zb
              clear HE
              go_enter Try.func19, Try.ntmps19
              go_wp2_with (first | (go_at_call 33; with_reducible refine Calls.mono (n0.out _) ?_; rintro e w1 ⟨rfl, hw⟩; rw [hw]; clear hw w1) | (go_at_call 33; with_reducible refine Calls.mono (n1.out _) ?_; rintro e w1 ⟨rfl, hw⟩; rw [hw]; clear hw w1) | (go_at_call 33; with_reducible refine Calls.mono (n2.out _) ?_; rintro e w1 ⟨rfl, hw⟩; rw [hw]; clear hw w1) | (go_at_call 20; with_reducible refine Calls.mono (L1.out _) ?_; rintro e w1 ⟨rfl, b9⟩; have X1 := hid (X0.out.on b9 X0.out.lt); have HB1 := hid (below_via HB.out b9); have d0 := X1.out.cell (j := 0) rfl; have d1 := X1.out.cell (j := 1) rfl; have d2 := X1.out.cell (j := 2) rfl; have d3 := X1.out.cell (j := 3) rfl; clear b9 X0 HB c0 c1 c2 c3) | (go_at_call 20; with_reducible refine Calls.mono (L2.out _) ?_; rintro e w1 ⟨rfl, b9⟩; have X2 := hid (X1.out.on b9 X1.out.lt); have HB2 := hid (below_via HB1.out b9); have g0 := X2.out.cell (j := 0) rfl; have g1 := X2.out.cell (j := 1) rfl; have g2 := X2.out.cell (j := 2) rfl; have g3 := X2.out.cell (j := 3) rfl; clear b9 X1 HB1 d0 d1 d2 d3) | fail)
              go_ret
              exact ⟨by rw [HR.out]; rfl, HB2.out⟩
end Go.Proofs.Ytngcldjkpcmidaa
