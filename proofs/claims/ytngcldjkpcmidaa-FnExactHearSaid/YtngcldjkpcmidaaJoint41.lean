/-
  The walk of impl.StreamOk: what it answers.
-/
import Derived.Test.YtngcldjkpcmidaaJoint40
import Derived.Test.YtngcldjkpcmidaaJoint37
import Derived.Deep.QuietTactic
namespace Go.Proofs.Ytngcldjkpcmidaa
open Go.RowKit

set_option maxRecDepth 1000000 in
set_option maxHeartbeats 4000000 in
theorem implStreamOk_any (d : StrD) (ao : Option Addr) (cap : Nat) (hs : d.Small) (w : World) (ha : LatesAt w ao d.late) :
    Calls Try.prog 24 #[.agg #[.int .i64 d.st, .int .i64 d.iss, .int .i64 d.una, .int .i64 d.rcv, .string d.wait, .int .i64 d.sent, .int .i64 d.fin, .bool d.pf, .string d.inn, .slice ao d.late.length cap, .bool d.owe, .int .i64 d.due, .int .i64 d.times]] w fun e w' => e = .returned (.bool (strOk d)) ∧ Below w.heap.size w w' := by
  obtain ⟨s1, s2, s3, s4⟩ := hs
  have HS4 := hid s4
  have HA := hid ha
  clear s4 ha
  have HB0 := below_more (Below.refl w.heap.size w) (.cells #[.int .i64 d.st, .int .i64 d.iss, .int .i64 d.una, .int .i64 d.rcv, .string d.wait, .int .i64 d.sent, .int .i64 d.fin, .bool d.pf, .string d.inn, .slice ao d.late.length cap, .bool d.owe, .int .i64 d.due, .int .i64 d.times] 31)
  have hx : BlockIs (w.alloc (.cells #[.int .i64 d.st, .int .i64 d.iss, .int .i64 d.una, .int .i64 d.rcv, .string d.wait, .int .i64 d.sent, .int .i64 d.fin, .bool d.pf, .string d.inn, .slice ao d.late.length cap, .bool d.owe, .int .i64 d.due, .int .i64 d.times] 31)) w.heap.size 31 [.int .i64 d.st, .int .i64 d.iss, .int .i64 d.una, .int .i64 d.rcv, .string d.wait, .int .i64 d.sent, .int .i64 d.fin, .bool d.pf, .string d.inn, .slice ao d.late.length cap, .bool d.owe, .int .i64 d.due, .int .i64 d.times] := heap_alloc_new w _
  obtain ⟨W, hW⟩ : ∃ W, w.alloc (.cells #[.int .i64 d.st, .int .i64 d.iss, .int .i64 d.una, .int .i64 d.rcv, .string d.wait, .int .i64 d.sent, .int .i64 d.fin, .bool d.pf, .string d.inn, .slice ao d.late.length cap, .bool d.owe, .int .i64 d.due, .int .i64 d.times] 31) = W := ⟨_, rfl⟩
  rw [hW] at HB0 hx
  have HB := hid HB0
  have X0 := hid hx
  have c0 := hx.cell (j := 0) rfl
  have c1 := hx.cell (j := 1) rfl
  have c2 := hx.cell (j := 2) rfl
  have c3 := hx.cell (j := 3) rfl
  have c4 := hx.cell (j := 4) rfl
  have c5 := hx.cell (j := 5) rfl
  have c6 := hx.cell (j := 6) rfl
  have c7 := hx.cell (j := 7) rfl
  have c8 := hx.cell (j := 8) rfl
  have c9 := hx.cell (j := 9) rfl
  have c10 := hx.cell (j := 10) rfl
  have c11 := hx.cell (j := 11) rfl
  have c12 := hx.cell (j := 12) rfl
  clear hx HB0
  have mS := fun w => sendingOk_any d ao cap s1 w
  have mL := fun w ha => lateOk_any d.late ao cap s3 HS4.out w ha
  have m2 := fun w => isNum_any d.iss w
  have m3 := fun w => isNum_any d.una w
  have m4 := fun w => isNum_any d.rcv w
  by_cases h0 : 0 ≤ d.st
  rotate_left
  · skip
    have HR : Hid (strOk d = false) := strOk_no fun h => by have := h.st; omega
    clear m2 m3 m4 mS mL
    go_enter Try.func24, Try.ntmps24
    go_wp2_with (first | fail)
    go_ret
    exact ⟨by rw [HR.out]; first | rfl | (show Ending.returned (Value.bool (decide (d.times ≤ 12))) = _; rw [decide_eq_true (by omega)]) | (show Ending.returned (Value.bool (decide (d.times ≤ 12))) = _; rw [decide_eq_false (by omega)]), HB.out⟩
  by_cases h1 : d.st ≤ 4
  rotate_left
  · skip
    have HR : Hid (strOk d = false) := strOk_no fun h => by have := h.st; omega
    clear m2 m3 m4 mS mL
    go_enter Try.func24, Try.ntmps24
    go_wp2_with (first | fail)
    go_ret
    exact ⟨by rw [HR.out]; first | rfl | (show Ending.returned (Value.bool (decide (d.times ≤ 12))) = _; rw [decide_eq_true (by omega)]) | (show Ending.returned (Value.bool (decide (d.times ≤ 12))) = _; rw [decide_eq_false (by omega)]), HB.out⟩
  cases h2 : within d.iss 0 65535 with
  | false =>
    rw [h2] at m2
    have n2 := hid m2
    clear m2
    have HR : Hid (strOk d = false) := strOk_no fun h => by rw [within_yes h.iss.1 h.iss.2] at h2; cases h2
    clear h2 m3 m4 mS mL
    go_enter Try.func24, Try.ntmps24
    go_wp2_with (first | (go_at_call 38; with_reducible refine Calls.mono (n2.out _) ?_; rintro e w1 ⟨rfl, hw⟩; rw [hw]; clear hw w1) | fail)
    go_ret
    exact ⟨by rw [HR.out]; first | rfl | (show Ending.returned (Value.bool (decide (d.times ≤ 12))) = _; rw [decide_eq_true (by omega)]) | (show Ending.returned (Value.bool (decide (d.times ≤ 12))) = _; rw [decide_eq_false (by omega)]), HB.out⟩
  | true =>
    rw [h2] at m2
    have n2 := hid m2
    clear m2
    cases h3 : within d.una 0 65535 with
    | false =>
      rw [h3] at m3
      have n3 := hid m3
      clear m3
      have HR : Hid (strOk d = false) := strOk_no fun h => by rw [within_yes h.una.1 h.una.2] at h3; cases h3
      clear h2 h3 m4 mS mL
      go_enter Try.func24, Try.ntmps24
      go_wp2_with (first | (go_at_call 38; with_reducible refine Calls.mono (n2.out _) ?_; rintro e w1 ⟨rfl, hw⟩; rw [hw]; clear hw w1) | (go_at_call 38; with_reducible refine Calls.mono (n3.out _) ?_; rintro e w1 ⟨rfl, hw⟩; rw [hw]; clear hw w1) | fail)
      go_ret
      exact ⟨by rw [HR.out]; first | rfl | (show Ending.returned (Value.bool (decide (d.times ≤ 12))) = _; rw [decide_eq_true (by omega)]) | (show Ending.returned (Value.bool (decide (d.times ≤ 12))) = _; rw [decide_eq_false (by omega)]), HB.out⟩
    | true =>
      rw [h3] at m3
      have n3 := hid m3
      clear m3
      cases h4 : within d.rcv 0 65535 with
      | false =>
        rw [h4] at m4
        have n4 := hid m4
        clear m4
        have HR : Hid (strOk d = false) := strOk_no fun h => by rw [within_yes h.rcv.1 h.rcv.2] at h4; cases h4
        clear h2 h3 h4 mS mL
        go_enter Try.func24, Try.ntmps24
        go_wp2_with (first | (go_at_call 38; with_reducible refine Calls.mono (n2.out _) ?_; rintro e w1 ⟨rfl, hw⟩; rw [hw]; clear hw w1) | (go_at_call 38; with_reducible refine Calls.mono (n3.out _) ?_; rintro e w1 ⟨rfl, hw⟩; rw [hw]; clear hw w1) | (go_at_call 38; with_reducible refine Calls.mono (n4.out _) ?_; rintro e w1 ⟨rfl, hw⟩; rw [hw]; clear hw w1) | fail)
        go_ret
        exact ⟨by rw [HR.out]; first | rfl | (show Ending.returned (Value.bool (decide (d.times ≤ 12))) = _; rw [decide_eq_true (by omega)]) | (show Ending.returned (Value.bool (decide (d.times ≤ 12))) = _; rw [decide_eq_false (by omega)]), HB.out⟩
      | true =>
        rw [h4] at m4
        have n4 := hid m4
        clear m4
        cases h5 : sendOk d with
        | false =>
          rw [h5] at mS
          have nS := hid mS
          clear mS
          have HR : Hid (strOk d = false) := strOk_no fun h => by have h9 := strOk_iff.2 h; simp [strOk, h5] at h9
          clear h2 h3 h4 h5 mL
          go_enter Try.func24, Try.ntmps24
          go_wp2_with (first | (go_at_call 38; with_reducible refine Calls.mono (n2.out _) ?_; rintro e w1 ⟨rfl, hw⟩; rw [hw]; clear hw w1) | (go_at_call 38; with_reducible refine Calls.mono (n3.out _) ?_; rintro e w1 ⟨rfl, hw⟩; rw [hw]; clear hw w1) | (go_at_call 38; with_reducible refine Calls.mono (n4.out _) ?_; rintro e w1 ⟨rfl, hw⟩; rw [hw]; clear hw w1) | (go_at_call 39; with_reducible refine Calls.mono (nS.out _) ?_; rintro e w1 ⟨rfl, b1⟩; have X1 := hid (X0.out.on b1 X0.out.lt); have B1 := hid (below_via HB.out b1); have d8 := X1.out.cell (j := 8) rfl; have d9 := X1.out.cell (j := 9) rfl; have d11 := X1.out.cell (j := 11) rfl; have d12 := X1.out.cell (j := 12) rfl; clear b1 X0 HB c0 c1 c2 c3 c4 c5 c6 c7 c8 c9 c10 c11 c12) | fail)
          go_ret
          exact ⟨by rw [HR.out]; first | rfl | (show Ending.returned (Value.bool (decide (d.times ≤ 12))) = _; rw [decide_eq_true (by omega)]) | (show Ending.returned (Value.bool (decide (d.times ≤ 12))) = _; rw [decide_eq_false (by omega)]), B1.out⟩
        | true =>
          rw [h5] at mS
          have nS := hid mS
          clear mS
          by_cases h6 : (d.inn.size : Int) ≤ 1000
          rotate_left
          · skip
            have HR : Hid (strOk d = false) := strOk_no fun h => by have := h.inn; omega
            clear h2 h3 h4 h5 mL
            go_enter Try.func24, Try.ntmps24
            go_wp2_with (first | (go_at_call 38; with_reducible refine Calls.mono (n2.out _) ?_; rintro e w1 ⟨rfl, hw⟩; rw [hw]; clear hw w1) | (go_at_call 38; with_reducible refine Calls.mono (n3.out _) ?_; rintro e w1 ⟨rfl, hw⟩; rw [hw]; clear hw w1) | (go_at_call 38; with_reducible refine Calls.mono (n4.out _) ?_; rintro e w1 ⟨rfl, hw⟩; rw [hw]; clear hw w1) | (go_at_call 39; with_reducible refine Calls.mono (nS.out _) ?_; rintro e w1 ⟨rfl, b1⟩; have X1 := hid (X0.out.on b1 X0.out.lt); have B1 := hid (below_via HB.out b1); have d8 := X1.out.cell (j := 8) rfl; have d9 := X1.out.cell (j := 9) rfl; have d11 := X1.out.cell (j := 11) rfl; have d12 := X1.out.cell (j := 12) rfl; clear b1 X0 HB c0 c1 c2 c3 c4 c5 c6 c7 c8 c9 c10 c11 c12) | fail)
            go_ret
            exact ⟨by rw [HR.out]; first | rfl | (show Ending.returned (Value.bool (decide (d.times ≤ 12))) = _; rw [decide_eq_true (by omega)]) | (show Ending.returned (Value.bool (decide (d.times ≤ 12))) = _; rw [decide_eq_false (by omega)]), B1.out⟩
          cases h7 : (latesOk d.late && decide ((d.late.length : Int) ≤ 8)) with
          | false =>
            rw [h7] at mL
            have nL := hid mL
            clear mL
            have HR : Hid (strOk d = false) := strOk_no fun h => by rw [h.late, decide_eq_true (show (d.late.length : Int) ≤ 8 by have := h.few; omega)] at h7; cases h7
            clear h2 h3 h4 h5 h7
            go_enter Try.func24, Try.ntmps24
            go_wp2_with (first | (go_at_call 38; with_reducible refine Calls.mono (n2.out _) ?_; rintro e w1 ⟨rfl, hw⟩; rw [hw]; clear hw w1) | (go_at_call 38; with_reducible refine Calls.mono (n3.out _) ?_; rintro e w1 ⟨rfl, hw⟩; rw [hw]; clear hw w1) | (go_at_call 38; with_reducible refine Calls.mono (n4.out _) ?_; rintro e w1 ⟨rfl, hw⟩; rw [hw]; clear hw w1) | (go_at_call 39; with_reducible refine Calls.mono (nS.out _) ?_; rintro e w1 ⟨rfl, b1⟩; have X1 := hid (X0.out.on b1 X0.out.lt); have B1 := hid (below_via HB.out b1); have d8 := X1.out.cell (j := 8) rfl; have d9 := X1.out.cell (j := 9) rfl; have d11 := X1.out.cell (j := 11) rfl; have d12 := X1.out.cell (j := 12) rfl; clear b1 X0 HB c0 c1 c2 c3 c4 c5 c6 c7 c8 c9 c10 c11 c12) | (go_at_call 40; with_reducible refine Calls.mono (nL.out _ (HA.out.on B1.out)) ?_; rintro e w2 ⟨rfl, b2⟩; have X2 := hid (X1.out.on b2 X1.out.lt); have B2 := hid (below_via B1.out b2); have g11 := X2.out.cell (j := 11) rfl; have g12 := X2.out.cell (j := 12) rfl; clear b2 X1 B1 d8 d9 d11 d12) | fail)
            go_ret
            exact ⟨by rw [HR.out]; first | rfl | (show Ending.returned (Value.bool (decide (d.times ≤ 12))) = _; rw [decide_eq_true (by omega)]) | (show Ending.returned (Value.bool (decide (d.times ≤ 12))) = _; rw [decide_eq_false (by omega)]), B2.out⟩
          | true =>
            rw [h7] at mL
            have nL := hid mL
            clear mL
            by_cases h8 : 0 ≤ d.due
            rotate_left
            · skip
              have HR : Hid (strOk d = false) := strOk_no fun h => by have := h.due; omega
              clear h2 h3 h4 h5 h7
              go_enter Try.func24, Try.ntmps24
              go_wp2_with (first | (go_at_call 38; with_reducible refine Calls.mono (n2.out _) ?_; rintro e w1 ⟨rfl, hw⟩; rw [hw]; clear hw w1) | (go_at_call 38; with_reducible refine Calls.mono (n3.out _) ?_; rintro e w1 ⟨rfl, hw⟩; rw [hw]; clear hw w1) | (go_at_call 38; with_reducible refine Calls.mono (n4.out _) ?_; rintro e w1 ⟨rfl, hw⟩; rw [hw]; clear hw w1) | (go_at_call 39; with_reducible refine Calls.mono (nS.out _) ?_; rintro e w1 ⟨rfl, b1⟩; have X1 := hid (X0.out.on b1 X0.out.lt); have B1 := hid (below_via HB.out b1); have d8 := X1.out.cell (j := 8) rfl; have d9 := X1.out.cell (j := 9) rfl; have d11 := X1.out.cell (j := 11) rfl; have d12 := X1.out.cell (j := 12) rfl; clear b1 X0 HB c0 c1 c2 c3 c4 c5 c6 c7 c8 c9 c10 c11 c12) | (go_at_call 40; with_reducible refine Calls.mono (nL.out _ (HA.out.on B1.out)) ?_; rintro e w2 ⟨rfl, b2⟩; have X2 := hid (X1.out.on b2 X1.out.lt); have B2 := hid (below_via B1.out b2); have g11 := X2.out.cell (j := 11) rfl; have g12 := X2.out.cell (j := 12) rfl; clear b2 X1 B1 d8 d9 d11 d12) | fail)
              go_ret
              exact ⟨by rw [HR.out]; first | rfl | (show Ending.returned (Value.bool (decide (d.times ≤ 12))) = _; rw [decide_eq_true (by omega)]) | (show Ending.returned (Value.bool (decide (d.times ≤ 12))) = _; rw [decide_eq_false (by omega)]), B2.out⟩
            by_cases h9 : d.due ≤ 1000000000
            rotate_left
            · skip
              have HR : Hid (strOk d = false) := strOk_no fun h => by have := h.due; omega
              clear h2 h3 h4 h5 h7
              go_enter Try.func24, Try.ntmps24
              go_wp2_with (first | (go_at_call 38; with_reducible refine Calls.mono (n2.out _) ?_; rintro e w1 ⟨rfl, hw⟩; rw [hw]; clear hw w1) | (go_at_call 38; with_reducible refine Calls.mono (n3.out _) ?_; rintro e w1 ⟨rfl, hw⟩; rw [hw]; clear hw w1) | (go_at_call 38; with_reducible refine Calls.mono (n4.out _) ?_; rintro e w1 ⟨rfl, hw⟩; rw [hw]; clear hw w1) | (go_at_call 39; with_reducible refine Calls.mono (nS.out _) ?_; rintro e w1 ⟨rfl, b1⟩; have X1 := hid (X0.out.on b1 X0.out.lt); have B1 := hid (below_via HB.out b1); have d8 := X1.out.cell (j := 8) rfl; have d9 := X1.out.cell (j := 9) rfl; have d11 := X1.out.cell (j := 11) rfl; have d12 := X1.out.cell (j := 12) rfl; clear b1 X0 HB c0 c1 c2 c3 c4 c5 c6 c7 c8 c9 c10 c11 c12) | (go_at_call 40; with_reducible refine Calls.mono (nL.out _ (HA.out.on B1.out)) ?_; rintro e w2 ⟨rfl, b2⟩; have X2 := hid (X1.out.on b2 X1.out.lt); have B2 := hid (below_via B1.out b2); have g11 := X2.out.cell (j := 11) rfl; have g12 := X2.out.cell (j := 12) rfl; clear b2 X1 B1 d8 d9 d11 d12) | fail)
              go_ret
              exact ⟨by rw [HR.out]; first | rfl | (show Ending.returned (Value.bool (decide (d.times ≤ 12))) = _; rw [decide_eq_true (by omega)]) | (show Ending.returned (Value.bool (decide (d.times ≤ 12))) = _; rw [decide_eq_false (by omega)]), B2.out⟩
            by_cases h10 : 0 ≤ d.times
            rotate_left
            · skip
              have HR : Hid (strOk d = false) := strOk_no fun h => by have := h.times; omega
              clear h2 h3 h4 h5 h7
              go_enter Try.func24, Try.ntmps24
              go_wp2_with (first | (go_at_call 38; with_reducible refine Calls.mono (n2.out _) ?_; rintro e w1 ⟨rfl, hw⟩; rw [hw]; clear hw w1) | (go_at_call 38; with_reducible refine Calls.mono (n3.out _) ?_; rintro e w1 ⟨rfl, hw⟩; rw [hw]; clear hw w1) | (go_at_call 38; with_reducible refine Calls.mono (n4.out _) ?_; rintro e w1 ⟨rfl, hw⟩; rw [hw]; clear hw w1) | (go_at_call 39; with_reducible refine Calls.mono (nS.out _) ?_; rintro e w1 ⟨rfl, b1⟩; have X1 := hid (X0.out.on b1 X0.out.lt); have B1 := hid (below_via HB.out b1); have d8 := X1.out.cell (j := 8) rfl; have d9 := X1.out.cell (j := 9) rfl; have d11 := X1.out.cell (j := 11) rfl; have d12 := X1.out.cell (j := 12) rfl; clear b1 X0 HB c0 c1 c2 c3 c4 c5 c6 c7 c8 c9 c10 c11 c12) | (go_at_call 40; with_reducible refine Calls.mono (nL.out _ (HA.out.on B1.out)) ?_; rintro e w2 ⟨rfl, b2⟩; have X2 := hid (X1.out.on b2 X1.out.lt); have B2 := hid (below_via B1.out b2); have g11 := X2.out.cell (j := 11) rfl; have g12 := X2.out.cell (j := 12) rfl; clear b2 X1 B1 d8 d9 d11 d12) | fail)
              go_ret
              exact ⟨by rw [HR.out]; first | rfl | (show Ending.returned (Value.bool (decide (d.times ≤ 12))) = _; rw [decide_eq_true (by omega)]) | (show Ending.returned (Value.bool (decide (d.times ≤ 12))) = _; rw [decide_eq_false (by omega)]), B2.out⟩
            by_cases h11 : d.times ≤ 12
            rotate_left
            · skip
              have HR : Hid (strOk d = false) := strOk_no fun h => by have := h.times; omega
              clear h2 h3 h4 h5 h7
              go_enter Try.func24, Try.ntmps24
              go_wp2_with (first | (go_at_call 38; with_reducible refine Calls.mono (n2.out _) ?_; rintro e w1 ⟨rfl, hw⟩; rw [hw]; clear hw w1) | (go_at_call 38; with_reducible refine Calls.mono (n3.out _) ?_; rintro e w1 ⟨rfl, hw⟩; rw [hw]; clear hw w1) | (go_at_call 38; with_reducible refine Calls.mono (n4.out _) ?_; rintro e w1 ⟨rfl, hw⟩; rw [hw]; clear hw w1) | (go_at_call 39; with_reducible refine Calls.mono (nS.out _) ?_; rintro e w1 ⟨rfl, b1⟩; have X1 := hid (X0.out.on b1 X0.out.lt); have B1 := hid (below_via HB.out b1); have d8 := X1.out.cell (j := 8) rfl; have d9 := X1.out.cell (j := 9) rfl; have d11 := X1.out.cell (j := 11) rfl; have d12 := X1.out.cell (j := 12) rfl; clear b1 X0 HB c0 c1 c2 c3 c4 c5 c6 c7 c8 c9 c10 c11 c12) | (go_at_call 40; with_reducible refine Calls.mono (nL.out _ (HA.out.on B1.out)) ?_; rintro e w2 ⟨rfl, b2⟩; have X2 := hid (X1.out.on b2 X1.out.lt); have B2 := hid (below_via B1.out b2); have g11 := X2.out.cell (j := 11) rfl; have g12 := X2.out.cell (j := 12) rfl; clear b2 X1 B1 d8 d9 d11 d12) | fail)
              go_ret
              exact ⟨by rw [HR.out]; first | rfl | (show Ending.returned (Value.bool (decide (d.times ≤ 12))) = _; rw [decide_eq_true (by omega)]) | (show Ending.returned (Value.bool (decide (d.times ≤ 12))) = _; rw [decide_eq_false (by omega)]), B2.out⟩
            have HR : Hid (strOk d = true) := by show _ = _; simp only [Bool.and_eq_true, decide_eq_true_eq] at h7; simp only [strOk, within_yes h0 h1, h2, h3, h4, h5, within_yes h8 h9, within_yes h10 h11, h7.1, Bool.true_and, Bool.and_true, Bool.and_eq_true, decide_eq_true_eq]; omega
            clear h2 h3 h4 h5 h7
            go_enter Try.func24, Try.ntmps24
            go_wp2_with (first | (go_at_call 38; with_reducible refine Calls.mono (n2.out _) ?_; rintro e w1 ⟨rfl, hw⟩; rw [hw]; clear hw w1) | (go_at_call 38; with_reducible refine Calls.mono (n3.out _) ?_; rintro e w1 ⟨rfl, hw⟩; rw [hw]; clear hw w1) | (go_at_call 38; with_reducible refine Calls.mono (n4.out _) ?_; rintro e w1 ⟨rfl, hw⟩; rw [hw]; clear hw w1) | (go_at_call 39; with_reducible refine Calls.mono (nS.out _) ?_; rintro e w1 ⟨rfl, b1⟩; have X1 := hid (X0.out.on b1 X0.out.lt); have B1 := hid (below_via HB.out b1); have d8 := X1.out.cell (j := 8) rfl; have d9 := X1.out.cell (j := 9) rfl; have d11 := X1.out.cell (j := 11) rfl; have d12 := X1.out.cell (j := 12) rfl; clear b1 X0 HB c0 c1 c2 c3 c4 c5 c6 c7 c8 c9 c10 c11 c12) | (go_at_call 40; with_reducible refine Calls.mono (nL.out _ (HA.out.on B1.out)) ?_; rintro e w2 ⟨rfl, b2⟩; have X2 := hid (X1.out.on b2 X1.out.lt); have B2 := hid (below_via B1.out b2); have g11 := X2.out.cell (j := 11) rfl; have g12 := X2.out.cell (j := 12) rfl; clear b2 X1 B1 d8 d9 d11 d12) | fail)
            go_ret
            exact ⟨by rw [HR.out]; first | rfl | (show Ending.returned (Value.bool (decide (d.times ≤ 12))) = _; rw [decide_eq_true (by omega)]) | (show Ending.returned (Value.bool (decide (d.times ≤ 12))) = _; rw [decide_eq_false (by omega)]), B2.out⟩
end Go.Proofs.Ytngcldjkpcmidaa
