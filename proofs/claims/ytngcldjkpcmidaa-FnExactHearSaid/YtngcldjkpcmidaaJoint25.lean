/-
  The walk of spec.StreamOk: what it answers.
-/
import Derived.Test.YtngcldjkpcmidaaJoint1
import Derived.Test.YtngcldjkpcmidaaJoint24
import Derived.Test.YtngcldjkpcmidaaJoint19
import Derived.Deep.QuietTactic
import Derived.Deep.DeepCutAuto
import Derived.BigQuiet
import Derived.Lib.QuietBelow
namespace Go.Proofs.Ytngcldjkpcmidaa
open Go.RowKit Go.Sort

set_option maxRecDepth 1000000 in
set_option maxHeartbeats 4000000 in
theorem specStreamOk_any (d : StrD) (ao : Option Addr) (cap : Nat) (hs : d.Small) (w : World) (ha : LatesAt w ao d.late) :
    Calls Try.prog 18 #[.agg #[.int .i64 d.st, .int .i64 d.iss, .int .i64 d.una, .int .i64 d.rcv, .string d.wait, .int .i64 d.sent, .int .i64 d.fin, .bool d.pf, .string d.inn, .slice ao d.late.length cap, .bool d.owe, .int .i64 d.due, .int .i64 d.times]] w fun e w' => e = .returned (.bool (strOk d)) ∧ Below w.heap.size w w' := by
  obtain ⟨s1, s2, s3, s4⟩ := hs
  have HS4 := hid s4
  have HA := hid ha
  clear s4 ha
  have HB0 := below_more (Below.refl w.heap.size w) (.cells #[.int .i64 d.st, .int .i64 d.iss, .int .i64 d.una, .int .i64 d.rcv, .string d.wait, .int .i64 d.sent, .int .i64 d.fin, .bool d.pf, .string d.inn, .slice ao d.late.length cap, .bool d.owe, .int .i64 d.due, .int .i64 d.times] 31)
  have hx : BlockIs (w.alloc (.cells #[.int .i64 d.st, .int .i64 d.iss, .int .i64 d.una, .int .i64 d.rcv, .string d.wait, .int .i64 d.sent, .int .i64 d.fin, .bool d.pf, .string d.inn, .slice ao d.late.length cap, .bool d.owe, .int .i64 d.due, .int .i64 d.times] 31)) w.heap.size 31 [.int .i64 d.st, .int .i64 d.iss, .int .i64 d.una, .int .i64 d.rcv, .string d.wait, .int .i64 d.sent, .int .i64 d.fin, .bool d.pf, .string d.inn, .slice ao d.late.length cap, .bool d.owe, .int .i64 d.due, .int .i64 d.times] := heap_alloc_new w _
  obtain ⟨W, hW⟩ : ∃ W, w.alloc (.cells #[.int .i64 d.st, .int .i64 d.iss, .int .i64 d.una, .int .i64 d.rcv, .string d.wait, .int .i64 d.sent, .int .i64 d.fin, .bool d.pf, .string d.inn, .slice ao d.late.length cap, .bool d.owe, .int .i64 d.due, .int .i64 d.times] 31) = W := ⟨_, rfl⟩
  rw [hW] at HB0 hx
  have HB := hid HB0
  have X0 := hid hx
  have c0 := hx.cell (j := 0) rfl
  have c1 := hx.cell (j := 1) rfl
  have c2 := hx.cell (j := 2) rfl
  have c3 := hx.cell (j := 3) rfl
  have c4 := hx.cell (j := 4) rfl
  have c5 := hx.cell (j := 5) rfl
  have c6 := hx.cell (j := 6) rfl
  have c7 := hx.cell (j := 7) rfl
  have c8 := hx.cell (j := 8) rfl
  have c9 := hx.cell (j := 9) rfl
  have c10 := hx.cell (j := 10) rfl
  have c11 := hx.cell (j := 11) rfl
  have c12 := hx.cell (j := 12) rfl
  clear hx HB0
  obtain ⟨m, hm⟩ : ∃ m : Int, min (d.wait.size : Int) 24 = m := ⟨_, rfl⟩
  have HM : Hid (((min d.wait.size 24 : Nat) : Int) = m) := by show _ = _; omega
  have nL' := fun w => l13Less_any d.wait.size 24 w
  rw [hm] at nL'
  have nL := hid nL'
  clear nL' hm
  have m0 := fun w => l01In_any d.st 0 4 w
  have m1 := fun w => l01In_any d.iss 0 65535 w
  have m2 := fun w => l01In_any d.una 0 65535 w
  have m3 := fun w => l01In_any d.rcv 0 65535 w
  have m5 := fun w => l01In_any d.sent 0 m w
  have m6 := fun w => l01In_any d.fin 0 3 w
  go_enter Try.func18, Try.ntmps18
  go_upto_region 1 with fail
  go_cut [47] (fun c wx => c = .bool (!(within d.st 0 4 && within d.iss 0 65535 && within d.una 0 65535 && within d.rcv 0 65535 && decide ((d.wait.size : Int) ≤ 200) && within d.sent 0 m && within d.fin 0 3)) ∧ Hid (Below w.heap.size w wx ∧ BlockIs wx w.heap.size 31 [.int .i64 d.st, .int .i64 d.iss, .int .i64 d.una, .int .i64 d.rcv, .string d.wait, .int .i64 d.sent, .int .i64 d.fin, .bool d.pf, .string d.inn, .slice ao d.late.length cap, .bool d.owe, .int .i64 d.due, .int .i64 d.times]))
  case first =>
    cases h0 : within d.st 0 4 with
    | false =>
      rw [h0] at m0
      have n0 := hid m0
      clear m0
      have HV : Hid ((!(within d.st 0 4 && within d.iss 0 65535 && within d.una 0 65535 && within d.rcv 0 65535 && decide ((d.wait.size : Int) ≤ 200) && within d.sent 0 m && within d.fin 0 3)) = true) := by show _ = _; simp [h0]
      clear h0
      go_quiet (first | (go_at_call 33; with_reducible refine Calls.quiet_of_same (n0.out _)) | (go_at_call 34; with_reducible refine Calls.quiet_of_same (nL.out _)) | fail)
      go_wp2_with fail
      go_meet
      exact ⟨by rw [HV.out], below_drewN HB.out _, X0.out.on (below_drewN (Below.refl _ _) _) X0.out.lt⟩
    | true =>
      rw [h0] at m0
      have n0 := hid m0
      clear m0
      cases h1 : within d.iss 0 65535 with
      | false =>
        rw [h1] at m1
        have n1 := hid m1
        clear m1
        have HV : Hid ((!(within d.st 0 4 && within d.iss 0 65535 && within d.una 0 65535 && within d.rcv 0 65535 && decide ((d.wait.size : Int) ≤ 200) && within d.sent 0 m && within d.fin 0 3)) = true) := by show _ = _; simp [h0, h1]
        clear h0 h1
        go_quiet (first | (go_at_call 33; with_reducible refine Calls.quiet_of_same (n0.out _)) | (go_at_call 33; with_reducible refine Calls.quiet_of_same (n1.out _)) | (go_at_call 34; with_reducible refine Calls.quiet_of_same (nL.out _)) | fail)
        go_wp2_with fail
        go_meet
        exact ⟨by rw [HV.out], below_drewN HB.out _, X0.out.on (below_drewN (Below.refl _ _) _) X0.out.lt⟩
      | true =>
        rw [h1] at m1
        have n1 := hid m1
        clear m1
        cases h2 : within d.una 0 65535 with
        | false =>
          rw [h2] at m2
          have n2 := hid m2
          clear m2
          have HV : Hid ((!(within d.st 0 4 && within d.iss 0 65535 && within d.una 0 65535 && within d.rcv 0 65535 && decide ((d.wait.size : Int) ≤ 200) && within d.sent 0 m && within d.fin 0 3)) = true) := by show _ = _; simp [h0, h1, h2]
          clear h0 h1 h2
          go_quiet (first | (go_at_call 33; with_reducible refine Calls.quiet_of_same (n0.out _)) | (go_at_call 33; with_reducible refine Calls.quiet_of_same (n1.out _)) | (go_at_call 33; with_reducible refine Calls.quiet_of_same (n2.out _)) | (go_at_call 34; with_reducible refine Calls.quiet_of_same (nL.out _)) | fail)
          go_wp2_with fail
          go_meet
          exact ⟨by rw [HV.out], below_drewN HB.out _, X0.out.on (below_drewN (Below.refl _ _) _) X0.out.lt⟩
        | true =>
          rw [h2] at m2
          have n2 := hid m2
          clear m2
          cases h3 : within d.rcv 0 65535 with
          | false =>
            rw [h3] at m3
            have n3 := hid m3
            clear m3
            have HV : Hid ((!(within d.st 0 4 && within d.iss 0 65535 && within d.una 0 65535 && within d.rcv 0 65535 && decide ((d.wait.size : Int) ≤ 200) && within d.sent 0 m && within d.fin 0 3)) = true) := by show _ = _; simp [h0, h1, h2, h3]
            clear h0 h1 h2 h3
            go_quiet (first | (go_at_call 33; with_reducible refine Calls.quiet_of_same (n0.out _)) | (go_at_call 33; with_reducible refine Calls.quiet_of_same (n1.out _)) | (go_at_call 33; with_reducible refine Calls.quiet_of_same (n2.out _)) | (go_at_call 33; with_reducible refine Calls.quiet_of_same (n3.out _)) | (go_at_call 34; with_reducible refine Calls.quiet_of_same (nL.out _)) | fail)
            go_wp2_with fail
            go_meet
            exact ⟨by rw [HV.out], below_drewN HB.out _, X0.out.on (below_drewN (Below.refl _ _) _) X0.out.lt⟩
          | true =>
            rw [h3] at m3
            have n3 := hid m3
            clear m3
            by_cases h4 : (d.wait.size : Int) ≤ 200
            rotate_left
            · have h4d : decide ((200 : Int) < (d.wait.size : Int)) = true := by rw [decide_eq_true_eq]; omega
              have HV : Hid ((!(within d.st 0 4 && within d.iss 0 65535 && within d.una 0 65535 && within d.rcv 0 65535 && decide ((d.wait.size : Int) ≤ 200) && within d.sent 0 m && within d.fin 0 3)) = true) := by show _ = _; simp [h0, h1, h2, h3, h4]
              clear h0 h1 h2 h3
              go_quiet (first | (go_at_call 33; with_reducible refine Calls.quiet_of_same (n0.out _)) | (go_at_call 33; with_reducible refine Calls.quiet_of_same (n1.out _)) | (go_at_call 33; with_reducible refine Calls.quiet_of_same (n2.out _)) | (go_at_call 33; with_reducible refine Calls.quiet_of_same (n3.out _)) | (go_at_call 34; with_reducible refine Calls.quiet_of_same (nL.out _)) | fail)
              go_wp2_with fail
              go_meet
              exact ⟨by rw [HV.out], below_drewN HB.out _, X0.out.on (below_drewN (Below.refl _ _) _) X0.out.lt⟩
            have h4d : decide ((200 : Int) < (d.wait.size : Int)) = false := by rw [decide_eq_false_iff_not]; omega
            cases h5 : within d.sent 0 m with
            | false =>
              rw [h5] at m5
              have n5 := hid m5
              clear m5
              have HV : Hid ((!(within d.st 0 4 && within d.iss 0 65535 && within d.una 0 65535 && within d.rcv 0 65535 && decide ((d.wait.size : Int) ≤ 200) && within d.sent 0 m && within d.fin 0 3)) = true) := by show _ = _; simp [h0, h1, h2, h3, h4, h5]
              clear h0 h1 h2 h3 h5
              go_quiet (first | (go_at_call 33; with_reducible refine Calls.quiet_of_same (n0.out _)) | (go_at_call 33; with_reducible refine Calls.quiet_of_same (n1.out _)) | (go_at_call 33; with_reducible refine Calls.quiet_of_same (n2.out _)) | (go_at_call 33; with_reducible refine Calls.quiet_of_same (n3.out _)) | (go_at_call 33; with_reducible refine Calls.quiet_of_same (n5.out _)) | (go_at_call 34; with_reducible refine Calls.quiet_of_same (nL.out _)) | fail)
              go_wp2_with fail
              go_meet
              exact ⟨by rw [HV.out], below_drewN HB.out _, X0.out.on (below_drewN (Below.refl _ _) _) X0.out.lt⟩
            | true =>
              rw [h5] at m5
              have n5 := hid m5
              clear m5
              cases h6 : within d.fin 0 3 with
              | false =>
                rw [h6] at m6
                have n6 := hid m6
                clear m6
                have HV : Hid ((!(within d.st 0 4 && within d.iss 0 65535 && within d.una 0 65535 && within d.rcv 0 65535 && decide ((d.wait.size : Int) ≤ 200) && within d.sent 0 m && within d.fin 0 3)) = true) := by show _ = _; simp [h0, h1, h2, h3, h4, h5, h6]
                clear h0 h1 h2 h3 h5 h6
                go_quiet (first | (go_at_call 33; with_reducible refine Calls.quiet_of_same (n0.out _)) | (go_at_call 33; with_reducible refine Calls.quiet_of_same (n1.out _)) | (go_at_call 33; with_reducible refine Calls.quiet_of_same (n2.out _)) | (go_at_call 33; with_reducible refine Calls.quiet_of_same (n3.out _)) | (go_at_call 33; with_reducible refine Calls.quiet_of_same (n5.out _)) | (go_at_call 33; with_reducible refine Calls.quiet_of_same (n6.out _)) | (go_at_call 34; with_reducible refine Calls.quiet_of_same (nL.out _)) | fail)
                go_wp2_with fail
                go_meet
                exact ⟨by rw [HV.out], below_drewN HB.out _, X0.out.on (below_drewN (Below.refl _ _) _) X0.out.lt⟩
              | true =>
                rw [h6] at m6
                have n6 := hid m6
                clear m6
                have HV : Hid ((!(within d.st 0 4 && within d.iss 0 65535 && within d.una 0 65535 && within d.rcv 0 65535 && decide ((d.wait.size : Int) ≤ 200) && within d.sent 0 m && within d.fin 0 3)) = false) := by show _ = _; simp [h0, h1, h2, h3, h4, h5, h6]
                clear h0 h1 h2 h3 h5 h6
                go_quiet (first | (go_at_call 33; with_reducible refine Calls.quiet_of_same (n0.out _)) | (go_at_call 33; with_reducible refine Calls.quiet_of_same (n1.out _)) | (go_at_call 33; with_reducible refine Calls.quiet_of_same (n2.out _)) | (go_at_call 33; with_reducible refine Calls.quiet_of_same (n3.out _)) | (go_at_call 33; with_reducible refine Calls.quiet_of_same (n5.out _)) | (go_at_call 33; with_reducible refine Calls.quiet_of_same (n6.out _)) | (go_at_call 34; with_reducible refine Calls.quiet_of_same (nL.out _)) | fail)
                go_wp2_with fail
                go_meet
                exact ⟨by rw [HV.out], below_drewN HB.out _, X0.out.on (below_drewN (Below.refl _ _) _) X0.out.lt⟩
  case rest =>
    obtain ⟨rfl, H1⟩ := hcut
    clear HB X0 nL c0 c1 c2 c3 c4 c5 c6 c7 c8 c9 c10 c11 c12 m0 m1 m2 m3 m5 m6
    cases hP1 : (within d.st 0 4 && within d.iss 0 65535 && within d.una 0 65535 && within d.rcv 0 65535 && decide ((d.wait.size : Int) ≤ 200) && within d.sent 0 m && within d.fin 0 3) with
    | false =>
      have HR : Hid (strOk d = false) := strOk_no fun h => by
        have hw := h.wait
        have hse := h.sent
        rw [HM.out] at hse
        rw [show (within d.st 0 4 && within d.iss 0 65535 && within d.una 0 65535 && within d.rcv 0 65535 && decide ((d.wait.size : Int) ≤ 200) && within d.sent 0 m && within d.fin 0 3) = true by simp only [within_yes h.st.1 h.st.2, within_yes h.iss.1 h.iss.2, within_yes h.una.1 h.una.2, within_yes h.rcv.1 h.rcv.2, within_yes hse.1 hse.2, within_yes h.fin.1 h.fin.2, Bool.true_and, Bool.and_true, decide_eq_true_eq]; omega] at hP1
        cases hP1
      go_wp2
      go_ret
      exact ⟨by rw [HR.out]; rfl, H1.out.1⟩
    | true =>
      have Q1 := hid hP1
      clear hP1
      have X1 := hid H1.out.2
      have B1 := hid H1.out.1
      have c0 := X1.out.cell (j := 0) rfl
      have c1 := X1.out.cell (j := 1) rfl
      have c2 := X1.out.cell (j := 2) rfl
      have c3 := X1.out.cell (j := 3) rfl
      have c4 := X1.out.cell (j := 4) rfl
      have c5 := X1.out.cell (j := 5) rfl
      have c6 := X1.out.cell (j := 6) rfl
      have c7 := X1.out.cell (j := 7) rfl
      have c8 := X1.out.cell (j := 8) rfl
      have c9 := X1.out.cell (j := 9) rfl
      have c10 := X1.out.cell (j := 10) rfl
      have c11 := X1.out.cell (j := 11) rfl
      have c12 := X1.out.cell (j := 12) rfl
      clear H1
      have m0 := fun w => l01In_any d.due 0 1000000000 w
      have m1 := fun w => l01In_any d.times 0 12 w
      go_upto_region 3 with fail
      go_cut [92] (fun c wx => c = .bool (!((!decide (d.fin = 2) || decide (d.sent = d.wait.size)) && (!decide (d.fin = 3) || decide (d.wait.size = 0)) && decide ((d.inn.size : Int) ≤ 1000) && decide ((d.late.length : Int) ≤ 8) && within d.due 0 1000000000 && within d.times 0 12)) ∧ wx = wc)
      case first =>
        by_cases f2 : d.fin = 2
        · have f2b : (d.fin == 2) = true := by rw [beq_iff_eq]; exact f2
          have f3 : ¬ d.fin = 3 := by omega
          have f3b : (d.fin == 3) = false := by rw [beq_eq_false_iff_ne]; exact f3
          by_cases q : d.sent = d.wait.size
          rotate_left
          · have qb : (d.sent == (d.wait.size : Int)) = false := by rw [beq_eq_false_iff_ne]; exact q
            have HV : Hid ((!((!decide (d.fin = 2) || decide (d.sent = d.wait.size)) && (!decide (d.fin = 3) || decide (d.wait.size = 0)) && decide ((d.inn.size : Int) ≤ 1000) && decide ((d.late.length : Int) ≤ 8) && within d.due 0 1000000000 && within d.times 0 12)) = true) := by show _ = _; simp [f2, q]
            clear f2
            go_wp2_with (first | fail)
            go_meet
            exact ⟨by first | (rw [HV.out]; done) | (rw [HV.out, decide_eq_false (by omega), decide_eq_false (by omega)]; rfl), rfl⟩
          have qb : (d.sent == (d.wait.size : Int)) = true := by rw [beq_iff_eq]; exact q
          have qn : (d.sent != (d.wait.size : Int)) = false := by rw [bne, qb]; rfl
          by_cases k3 : (d.inn.size : Int) ≤ 1000
          rotate_left
          · skip
            have HV : Hid ((!((!decide (d.fin = 2) || decide (d.sent = d.wait.size)) && (!decide (d.fin = 3) || decide (d.wait.size = 0)) && decide ((d.inn.size : Int) ≤ 1000) && decide ((d.late.length : Int) ≤ 8) && within d.due 0 1000000000 && within d.times 0 12)) = true) := by show _ = _; simp [f2, q, k3]
            clear f2 q
            go_wp2_with (first | fail)
            go_meet
            exact ⟨by first | (rw [HV.out]; done) | (rw [HV.out, decide_eq_false (by omega), decide_eq_false (by omega)]; rfl), rfl⟩
          by_cases k4 : (d.late.length : Int) ≤ 8
          rotate_left
          · skip
            have HV : Hid ((!((!decide (d.fin = 2) || decide (d.sent = d.wait.size)) && (!decide (d.fin = 3) || decide (d.wait.size = 0)) && decide ((d.inn.size : Int) ≤ 1000) && decide ((d.late.length : Int) ≤ 8) && within d.due 0 1000000000 && within d.times 0 12)) = true) := by show _ = _; simp [f2, q, k3, k4]
            clear f2 q
            go_wp2_with (first | fail)
            go_meet
            exact ⟨by first | (rw [HV.out]; done) | (rw [HV.out, decide_eq_false (by omega), decide_eq_false (by omega)]; rfl), rfl⟩
          cases h0 : within d.due 0 1000000000 with
          | false =>
            rw [h0] at m0
            have n0 := hid m0
            clear m0
            have HV : Hid ((!((!decide (d.fin = 2) || decide (d.sent = d.wait.size)) && (!decide (d.fin = 3) || decide (d.wait.size = 0)) && decide ((d.inn.size : Int) ≤ 1000) && decide ((d.late.length : Int) ≤ 8) && within d.due 0 1000000000 && within d.times 0 12)) = true) := by show _ = _; simp [f2, q, k3, k4, h0]
            clear h0 f2 q
            go_wp2_with (first | (go_at_call 33; with_reducible refine Calls.mono (n0.out _) ?_; rintro e w1 ⟨rfl, hw⟩; rw [hw]; clear hw w1) | fail)
            go_meet
            exact ⟨by first | (rw [HV.out]; done) | (rw [HV.out, decide_eq_false (by omega), decide_eq_false (by omega)]; rfl), rfl⟩
          | true =>
            rw [h0] at m0
            have n0 := hid m0
            clear m0
            cases h1 : within d.times 0 12 with
            | false =>
              rw [h1] at m1
              have n1 := hid m1
              clear m1
              have HV : Hid ((!((!decide (d.fin = 2) || decide (d.sent = d.wait.size)) && (!decide (d.fin = 3) || decide (d.wait.size = 0)) && decide ((d.inn.size : Int) ≤ 1000) && decide ((d.late.length : Int) ≤ 8) && within d.due 0 1000000000 && within d.times 0 12)) = true) := by show _ = _; simp [f2, q, k3, k4, h0, h1]
              clear h0 h1 f2 q
              go_wp2_with (first | (go_at_call 33; with_reducible refine Calls.mono (n0.out _) ?_; rintro e w1 ⟨rfl, hw⟩; rw [hw]; clear hw w1) | (go_at_call 33; with_reducible refine Calls.mono (n1.out _) ?_; rintro e w1 ⟨rfl, hw⟩; rw [hw]; clear hw w1) | fail)
              go_meet
              exact ⟨by first | (rw [HV.out]; done) | (rw [HV.out, decide_eq_false (by omega), decide_eq_false (by omega)]; rfl), rfl⟩
            | true =>
              rw [h1] at m1
              have n1 := hid m1
              clear m1
              have HV : Hid ((!((!decide (d.fin = 2) || decide (d.sent = d.wait.size)) && (!decide (d.fin = 3) || decide (d.wait.size = 0)) && decide ((d.inn.size : Int) ≤ 1000) && decide ((d.late.length : Int) ≤ 8) && within d.due 0 1000000000 && within d.times 0 12)) = false) := by show _ = _; simp [f2, q, k3, k4, h0, h1]
              clear h0 h1 f2 q
              go_wp2_with (first | (go_at_call 33; with_reducible refine Calls.mono (n0.out _) ?_; rintro e w1 ⟨rfl, hw⟩; rw [hw]; clear hw w1) | (go_at_call 33; with_reducible refine Calls.mono (n1.out _) ?_; rintro e w1 ⟨rfl, hw⟩; rw [hw]; clear hw w1) | fail)
              go_meet
              exact ⟨by first | (rw [HV.out]; done) | (rw [HV.out, decide_eq_false (by omega), decide_eq_false (by omega)]; rfl), rfl⟩
        · have f2b : (d.fin == 2) = false := by rw [beq_eq_false_iff_ne]; exact f2
          by_cases f3 : d.fin = 3
          · have f3b : (d.fin == 3) = true := by rw [beq_iff_eq]; exact f3
            by_cases z : d.wait.size = 0
            rotate_left
            · have hse : (d.wait.toList == []) = false := by rw [beq_eq_false_iff_ne, ByteArray.toList_eq]; intro h; exact z (show d.wait.data.toList.length = 0 by rw [h]; rfl)
              have HV : Hid ((!((!decide (d.fin = 2) || decide (d.sent = d.wait.size)) && (!decide (d.fin = 3) || decide (d.wait.size = 0)) && decide ((d.inn.size : Int) ≤ 1000) && decide ((d.late.length : Int) ≤ 8) && within d.due 0 1000000000 && within d.times 0 12)) = true) := by show _ = _; simp [f3, z]
              clear f3
              go_wp2_with (first | fail)
              go_meet
              exact ⟨by first | (rw [HV.out]; done) | (rw [HV.out, decide_eq_false (by omega), decide_eq_false (by omega)]; rfl), rfl⟩
            have hse : (d.wait.toList == []) = true := by rw [beq_iff_eq, ByteArray.toList_eq]; exact List.eq_nil_of_length_eq_zero z
            have hsn : (d.wait.toList != []) = false := by rw [bne, hse]; rfl
            by_cases k3 : (d.inn.size : Int) ≤ 1000
            rotate_left
            · skip
              have HV : Hid ((!((!decide (d.fin = 2) || decide (d.sent = d.wait.size)) && (!decide (d.fin = 3) || decide (d.wait.size = 0)) && decide ((d.inn.size : Int) ≤ 1000) && decide ((d.late.length : Int) ≤ 8) && within d.due 0 1000000000 && within d.times 0 12)) = true) := by show _ = _; simp [f3, z, k3]
              clear f3 z
              go_wp2_with (first | fail)
              go_meet
              exact ⟨by first | (rw [HV.out]; done) | (rw [HV.out, decide_eq_false (by omega), decide_eq_false (by omega)]; rfl), rfl⟩
            by_cases k4 : (d.late.length : Int) ≤ 8
            rotate_left
            · skip
              have HV : Hid ((!((!decide (d.fin = 2) || decide (d.sent = d.wait.size)) && (!decide (d.fin = 3) || decide (d.wait.size = 0)) && decide ((d.inn.size : Int) ≤ 1000) && decide ((d.late.length : Int) ≤ 8) && within d.due 0 1000000000 && within d.times 0 12)) = true) := by show _ = _; simp [f3, z, k3, k4]
              clear f3 z
              go_wp2_with (first | fail)
              go_meet
              exact ⟨by first | (rw [HV.out]; done) | (rw [HV.out, decide_eq_false (by omega), decide_eq_false (by omega)]; rfl), rfl⟩
            cases h0 : within d.due 0 1000000000 with
            | false =>
              rw [h0] at m0
              have n0 := hid m0
              clear m0
              have HV : Hid ((!((!decide (d.fin = 2) || decide (d.sent = d.wait.size)) && (!decide (d.fin = 3) || decide (d.wait.size = 0)) && decide ((d.inn.size : Int) ≤ 1000) && decide ((d.late.length : Int) ≤ 8) && within d.due 0 1000000000 && within d.times 0 12)) = true) := by show _ = _; simp [f3, z, k3, k4, h0]
              clear h0 f3 z
              go_wp2_with (first | (go_at_call 33; with_reducible refine Calls.mono (n0.out _) ?_; rintro e w1 ⟨rfl, hw⟩; rw [hw]; clear hw w1) | fail)
              go_meet
              exact ⟨by first | (rw [HV.out]; done) | (rw [HV.out, decide_eq_false (by omega), decide_eq_false (by omega)]; rfl), rfl⟩
            | true =>
              rw [h0] at m0
              have n0 := hid m0
              clear m0
              cases h1 : within d.times 0 12 with
              | false =>
                rw [h1] at m1
                have n1 := hid m1
                clear m1
                have HV : Hid ((!((!decide (d.fin = 2) || decide (d.sent = d.wait.size)) && (!decide (d.fin = 3) || decide (d.wait.size = 0)) && decide ((d.inn.size : Int) ≤ 1000) && decide ((d.late.length : Int) ≤ 8) && within d.due 0 1000000000 && within d.times 0 12)) = true) := by show _ = _; simp [f3, z, k3, k4, h0, h1]
                clear h0 h1 f3 z
                go_wp2_with (first | (go_at_call 33; with_reducible refine Calls.mono (n0.out _) ?_; rintro e w1 ⟨rfl, hw⟩; rw [hw]; clear hw w1) | (go_at_call 33; with_reducible refine Calls.mono (n1.out _) ?_; rintro e w1 ⟨rfl, hw⟩; rw [hw]; clear hw w1) | fail)
                go_meet
                exact ⟨by first | (rw [HV.out]; done) | (rw [HV.out, decide_eq_false (by omega), decide_eq_false (by omega)]; rfl), rfl⟩
              | true =>
                rw [h1] at m1
                have n1 := hid m1
                clear m1
                have HV : Hid ((!((!decide (d.fin = 2) || decide (d.sent = d.wait.size)) && (!decide (d.fin = 3) || decide (d.wait.size = 0)) && decide ((d.inn.size : Int) ≤ 1000) && decide ((d.late.length : Int) ≤ 8) && within d.due 0 1000000000 && within d.times 0 12)) = false) := by show _ = _; simp [f3, z, k3, k4, h0, h1]
                clear h0 h1 f3 z
                go_wp2_with (first | (go_at_call 33; with_reducible refine Calls.mono (n0.out _) ?_; rintro e w1 ⟨rfl, hw⟩; rw [hw]; clear hw w1) | (go_at_call 33; with_reducible refine Calls.mono (n1.out _) ?_; rintro e w1 ⟨rfl, hw⟩; rw [hw]; clear hw w1) | fail)
                go_meet
                exact ⟨by first | (rw [HV.out]; done) | (rw [HV.out, decide_eq_false (by omega), decide_eq_false (by omega)]; rfl), rfl⟩
          · have f3b : (d.fin == 3) = false := by rw [beq_eq_false_iff_ne]; exact f3
            by_cases k3 : (d.inn.size : Int) ≤ 1000
            rotate_left
            · skip
              have HV : Hid ((!((!decide (d.fin = 2) || decide (d.sent = d.wait.size)) && (!decide (d.fin = 3) || decide (d.wait.size = 0)) && decide ((d.inn.size : Int) ≤ 1000) && decide ((d.late.length : Int) ≤ 8) && within d.due 0 1000000000 && within d.times 0 12)) = true) := by show _ = _; simp [f2, f3, k3]
              go_wp2_with (first | fail)
              go_meet
              exact ⟨by first | (rw [HV.out]; done) | (rw [HV.out, decide_eq_false (by omega), decide_eq_false (by omega)]; rfl), rfl⟩
            by_cases k4 : (d.late.length : Int) ≤ 8
            rotate_left
            · skip
              have HV : Hid ((!((!decide (d.fin = 2) || decide (d.sent = d.wait.size)) && (!decide (d.fin = 3) || decide (d.wait.size = 0)) && decide ((d.inn.size : Int) ≤ 1000) && decide ((d.late.length : Int) ≤ 8) && within d.due 0 1000000000 && within d.times 0 12)) = true) := by show _ = _; simp [f2, f3, k3, k4]
              go_wp2_with (first | fail)
              go_meet
              exact ⟨by first | (rw [HV.out]; done) | (rw [HV.out, decide_eq_false (by omega), decide_eq_false (by omega)]; rfl), rfl⟩
            cases h0 : within d.due 0 1000000000 with
            | false =>
              rw [h0] at m0
              have n0 := hid m0
              clear m0
              have HV : Hid ((!((!decide (d.fin = 2) || decide (d.sent = d.wait.size)) && (!decide (d.fin = 3) || decide (d.wait.size = 0)) && decide ((d.inn.size : Int) ≤ 1000) && decide ((d.late.length : Int) ≤ 8) && within d.due 0 1000000000 && within d.times 0 12)) = true) := by show _ = _; simp [f2, f3, k3, k4, h0]
              clear h0
              go_wp2_with (first | (go_at_call 33; with_reducible refine Calls.mono (n0.out _) ?_; rintro e w1 ⟨rfl, hw⟩; rw [hw]; clear hw w1) | fail)
              go_meet
              exact ⟨by first | (rw [HV.out]; done) | (rw [HV.out, decide_eq_false (by omega), decide_eq_false (by omega)]; rfl), rfl⟩
            | true =>
              rw [h0] at m0
              have n0 := hid m0
              clear m0
              cases h1 : within d.times 0 12 with
              | false =>
                rw [h1] at m1
                have n1 := hid m1
                clear m1
                have HV : Hid ((!((!decide (d.fin = 2) || decide (d.sent = d.wait.size)) && (!decide (d.fin = 3) || decide (d.wait.size = 0)) && decide ((d.inn.size : Int) ≤ 1000) && decide ((d.late.length : Int) ≤ 8) && within d.due 0 1000000000 && within d.times 0 12)) = true) := by show _ = _; simp [f2, f3, k3, k4, h0, h1]
                clear h0 h1
                go_wp2_with (first | (go_at_call 33; with_reducible refine Calls.mono (n0.out _) ?_; rintro e w1 ⟨rfl, hw⟩; rw [hw]; clear hw w1) | (go_at_call 33; with_reducible refine Calls.mono (n1.out _) ?_; rintro e w1 ⟨rfl, hw⟩; rw [hw]; clear hw w1) | fail)
                go_meet
                exact ⟨by first | (rw [HV.out]; done) | (rw [HV.out, decide_eq_false (by omega), decide_eq_false (by omega)]; rfl), rfl⟩
              | true =>
                rw [h1] at m1
                have n1 := hid m1
                clear m1
                have HV : Hid ((!((!decide (d.fin = 2) || decide (d.sent = d.wait.size)) && (!decide (d.fin = 3) || decide (d.wait.size = 0)) && decide ((d.inn.size : Int) ≤ 1000) && decide ((d.late.length : Int) ≤ 8) && within d.due 0 1000000000 && within d.times 0 12)) = false) := by show _ = _; simp [f2, f3, k3, k4, h0, h1]
                clear h0 h1
                go_wp2_with (first | (go_at_call 33; with_reducible refine Calls.mono (n0.out _) ?_; rintro e w1 ⟨rfl, hw⟩; rw [hw]; clear hw w1) | (go_at_call 33; with_reducible refine Calls.mono (n1.out _) ?_; rintro e w1 ⟨rfl, hw⟩; rw [hw]; clear hw w1) | fail)
                go_meet
                exact ⟨by first | (rw [HV.out]; done) | (rw [HV.out, decide_eq_false (by omega), decide_eq_false (by omega)]; rfl), rfl⟩
      case rest =>
        obtain ⟨rfl, hwx⟩ := hcut
        rw [hwx]
        clear hwx m0 m1
        cases hP2 : ((!decide (d.fin = 2) || decide (d.sent = d.wait.size)) && (!decide (d.fin = 3) || decide (d.wait.size = 0)) && decide ((d.inn.size : Int) ≤ 1000) && decide ((d.late.length : Int) ≤ 8) && within d.due 0 1000000000 && within d.times 0 12) with
        | false =>
          have HR : Hid (strOk d = false) := strOk_no fun h => by
            have h2 := h.fin2
            have h3 := h.fin3
            have h4 := h.inn
            have h5 := h.few
            rw [show ((!decide (d.fin = 2) || decide (d.sent = d.wait.size)) && (!decide (d.fin = 3) || decide (d.wait.size = 0)) && decide ((d.inn.size : Int) ≤ 1000) && decide ((d.late.length : Int) ≤ 8) && within d.due 0 1000000000 && within d.times 0 12) = true by simp only [within_yes h.due.1 h.due.2, within_yes h.times.1 h.times.2, Bool.and_true, Bool.and_eq_true, Bool.or_eq_true, Bool.not_eq_true', decide_eq_true_eq, decide_eq_false_iff_not]; exact ⟨⟨⟨(Classical.em _).symm.imp_right h2, (Classical.em _).symm.imp_right h3⟩, by omega⟩, by omega⟩] at hP2
            cases hP2
          go_wp2
          go_ret
          exact ⟨by rw [HR.out]; rfl, B1.out⟩
        | true =>
          have HE : Hid (strOk d = latesOk d.late) := by
            show _ = _
            have q1 := Q1.out
            simp only [Bool.and_eq_true, Bool.or_eq_true, Bool.not_eq_true', decide_eq_true_eq, decide_eq_false_iff_not] at q1 hP2
            obtain ⟨⟨⟨⟨⟨⟨a1, a2⟩, a3⟩, a4⟩, a5⟩, a6⟩, a7⟩ := q1
            obtain ⟨⟨⟨⟨⟨b1, b2⟩, b3⟩, b4⟩, b5⟩, b6⟩ := hP2
            have b1' : (!decide (d.fin = 2) || decide (d.sent = d.wait.size)) = true := by simpa using b1
            have b2' : (!decide (d.fin = 3) || decide (d.wait.size = 0)) = true := by simpa using b2
            simp only [strOk, sendOk, HM.out, a1, a2, a3, a4, a6, a7, b1', b2', b5, b6, Bool.true_and, Bool.and_true]
            simp only [show d.wait.size ≤ 200 by omega, show d.inn.size ≤ 1000 by omega, show d.late.length ≤ 8 by omega, decide_true, Bool.true_and]
          clear hP2 Q1
          go_wp2
          go_loopg [3] d.late.length (fun g i wr => ∃ (k : Nat), k + g = d.late.length ∧ i = .int .i64 k ∧ Hid (Below w.heap.size w wr) ∧ Hid (BlockIs wr w.heap.size 31 [.int .i64 d.st, .int .i64 d.iss, .int .i64 d.una, .int .i64 d.rcv, .string d.wait, .int .i64 d.sent, .int .i64 d.fin, .bool d.pf, .string d.inn, .slice ao d.late.length cap, .bool d.owe, .int .i64 d.due, .int .i64 d.times]) ∧ Hid (latesOk (d.late.take k) = true))
          case atStart => exact ⟨0, by omega, rfl, B1, X1, rfl⟩
          case round =>
            obtain ⟨k, hkg, rfl, BR, XR, RT⟩ := hrel
            clear c0 c1 c2 c3 c4 c5 c6 c7 c8 c9 c10 c11 c12 X1 B1
            have c9 := XR.out.cell (j := 9) rfl
            cases gk with
            | zero =>
              have hlt : ¬ (k : Int) < (d.late.length : Int) := by omega
              have HR : Hid (strOk d = true) := by show _ = _; rw [HE.out, ← RT.out, List.take_of_length_le (by omega)]
              go_wp2
              go_ret
              exact ⟨by rw [HR.out]; rfl, BR.out⟩
            | succ g =>
              have hlt : k < d.late.length := by omega
              have hlt' : (k : Int) < (d.late.length : Int) := by omega
              have hne : d.late ≠ [] := by intro e; rw [e] at hlt; simp at hlt
              have hsz := HS4.out d.late[k] (List.getElem_mem hlt)
              obtain ⟨b, off, rfl, hc⟩ := HA.out.on BR.out hne
              obtain ⟨x0, x1⟩ := hc k hlt
              clear hc
              have HT := hid (List.take_succ_eq_append_getElem hlt)
              have m0 := fun w => l01In_any d.late[k].num 0 65535 w
              have m1 := fun w => l01In_any d.late[k].text.size 1 8 w
              cases h0 : within d.late[k].num 0 65535 with
              | false =>
                rw [h0] at m0
                have n0 := hid m0
                have HR : Hid (strOk d = false) := by show _ = _; rw [HE.out, ← Bool.not_eq_true]; intro h; have h9 := List.all_eq_true.1 h _ (List.getElem_mem hlt); simp [lateOk, h0] at h9
                clear m0 m1 h0
                go_wp2_with (first | (go_at_call 33; with_reducible refine Calls.mono (n0.out _) ?_; rintro e w1 ⟨rfl, hw⟩; rw [hw]; clear hw w1) | fail)
                go_ret
                exact ⟨by rw [HR.out]; rfl, BR.out⟩
              | true =>
                rw [h0] at m0
                have n0 := hid m0
                clear m0
                cases h1 : within (d.late[k].text.size : Int) 1 8 with
                | false =>
                  rw [h1] at m1
                  have n1 := hid m1
                  have HR : Hid (strOk d = false) := by show _ = _; rw [HE.out, ← Bool.not_eq_true]; intro h; have h9 := List.all_eq_true.1 h _ (List.getElem_mem hlt); simp [lateOk, h0, h1] at h9
                  clear m1 h0 h1
                  go_wp2_with (first | (go_at_call 33; with_reducible refine Calls.mono (n0.out _) ?_; rintro e w1 ⟨rfl, hw⟩; rw [hw]; clear hw w1) | (go_at_call 33; with_reducible refine Calls.mono (n1.out _) ?_; rintro e w1 ⟨rfl, hw⟩; rw [hw]; clear hw w1) | fail)
                  go_ret
                  exact ⟨by rw [HR.out]; rfl, BR.out⟩
                | true =>
                  rw [h1] at m1
                  have n1 := hid m1
                  have RT2 : Hid (latesOk (d.late.take (k + 1)) = true) := by show _ = _; rw [HT.out, latesOk, List.all_append, show (d.late.take k).all lateOk = true from RT.out]; simp [lateOk, h0, h1]
                  clear m1 h0 h1 RT
                  go_wp2_with (first | (go_at_call 33; with_reducible refine Calls.mono (n0.out _) ?_; rintro e w1 ⟨rfl, hw⟩; rw [hw]; clear hw w1) | (go_at_call 33; with_reducible refine Calls.mono (n1.out _) ?_; rintro e w1 ⟨rfl, hw⟩; rw [hw]; clear hw w1) | fail)
                  go_roundg g
                  case measure => omega
                  case rel => exact ⟨k + 1, by omega, by go_num, BR, XR, RT2⟩
end Go.Proofs.Ytngcldjkpcmidaa
