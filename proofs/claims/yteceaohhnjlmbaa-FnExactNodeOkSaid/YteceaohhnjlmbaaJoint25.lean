/-
  The walk of spec.EntryOk: what it answers.
-/
import Derived.Test.YteceaohhnjlmbaaJoint22
import Derived.Test.YteceaohhnjlmbaaJoint1
namespace Go.Proofs.Yteceaohhnjlmbaa
open Go.RowKit

set_option maxRecDepth 1000000 in
set_option maxHeartbeats 1000000 in
theorem specEntryOk_any (d : EntD) (hd : d.data.size ≤ 1048576) (w : World) :
    Calls Try.prog 55 #[.agg #[.int .i64 d.term, .int .i64 d.kind, .string d.data]] w fun e w' => e = .returned (.bool (entryOk d)) ∧ Below w.heap.size w w' := by
  obtain ⟨tm, kd, dt⟩ := d
  dsimp only at hd ⊢
  have HB := hid (below_more (Below.refl w.heap.size w) (.cells #[.int .i64 tm, .int .i64 kd, .string dt] 74))
  have hx : BlockIs (w.alloc (.cells #[.int .i64 tm, .int .i64 kd, .string dt] 74)) w.heap.size 74 [.int .i64 tm, .int .i64 kd, .string dt] := heap_alloc_new w _
  obtain ⟨W, hW⟩ : ∃ W, w.alloc (.cells #[.int .i64 tm, .int .i64 kd, .string dt] 74) = W := ⟨_, rfl⟩
  rw [hW] at HB hx
  have c0 := hx.cell (j := 0) rfl
  have c1 := hx.cell (j := 1) rfl
  have c2 := hx.cell (j := 2) rfl
  have cN' := fun w => l01In_any tm 0 100000 w
  clear hx
  cases hA : within tm 0 100000 with
  | false =>
    have hr := hid (entryOk_term (e := ⟨tm, kd, dt⟩) hA)
    rw [hA] at cN'
    have cN := hid cN'
    clear cN' hA
    go_enter Try.func55, Try.ntmps55
    go_wp2_with (go_at_call 23; refine (cN.out _).mono ?_; rintro e w1 ⟨rfl, hw⟩; rw [hw]; clear hw w1)
    go_ret
    exact ⟨by rw [hr.out]; rfl, HB.out⟩
  | true =>
    rw [hA] at cN'
    have cN := hid cN'
    clear cN'
    by_cases k1 : kd = 1
    · have hr := hid (entryOk_one (e := ⟨tm, kd, dt⟩) hA k1)
      clear hA
      subst k1
      by_cases h0 : dt.size = 0
      · have hl : (dt.toList == []) = true := by
          rw [ByteArray.toList_eq, beq_iff_eq]
          exact List.eq_nil_of_length_eq_zero (by simpa using h0)
        go_enter Try.func55, Try.ntmps55
        go_wp2_with (go_at_call 23; refine (cN.out _).mono ?_; rintro e w1 ⟨rfl, hw⟩; rw [hw]; clear hw w1)
        go_ret
        exact ⟨by rw [hr.out]; simp [h0], HB.out⟩
      · have hl : (dt.toList == []) = false := by
          rw [ByteArray.toList_eq, beq_eq_false_iff_ne]
          intro e
          exact h0 (by simpa using congrArg List.length e)
        go_enter Try.func55, Try.ntmps55
        go_wp2_with (go_at_call 23; refine (cN.out _).mono ?_; rintro e w1 ⟨rfl, hw⟩; rw [hw]; clear hw w1)
        go_ret
        exact ⟨by rw [hr.out]; simp [h0], HB.out⟩
    · by_cases k2 : kd = 2
      · have hr := hid (entryOk_two (e := ⟨tm, kd, dt⟩) hA k2)
        have cR := hid (specReadConf_any dt hd W)
        clear hA k1
        subst k2
        go_enter Try.func55, Try.ntmps55
        go_wp2_with (first | (go_at_call 23; refine (cN.out _).mono ?_; rintro e w1 ⟨rfl, hw⟩; rw [hw]; clear hw w1) | (go_at_call 68; refine Calls.mono cR.out ?_; rintro e w2 ⟨v2, rfl, o2, b2⟩))
        go_ret
        exact ⟨by rw [hr.out]; rfl, below_via HB.out b2⟩
      · by_cases k3 : kd = 3
        · have hr := hid (entryOk_three (e := ⟨tm, kd, dt⟩) hA k3)
          clear hA k1 k2
          subst k3
          go_enter Try.func55, Try.ntmps55
          go_wp2_with (go_at_call 23; refine (cN.out _).mono ?_; rintro e w1 ⟨rfl, hw⟩; rw [hw]; clear hw w1)
          go_ret
          refine ⟨?_, HB.out⟩
          rw [hr.out]
          by_cases h120 : dt.size ≤ 120
          · have h2 : (dt.size : Int) ≤ 120 := by omega
            simp [h120, h2]
          · have h2 : ¬ (dt.size : Int) ≤ 120 := by omega
            simp [h120, h2]
        · have hr := hid (entryOk_else (e := ⟨tm, kd, dt⟩) hA k1 k2 k3)
          clear hA
          go_enter Try.func55, Try.ntmps55
          go_wp2_with (go_at_call 23; refine (cN.out _).mono ?_; rintro e w1 ⟨rfl, hw⟩; rw [hw]; clear hw w1)
          go_ret
          exact ⟨by rw [hr.out]; rfl, HB.out⟩
end Go.Proofs.Yteceaohhnjlmbaa
