/-
  The walk of impl.SegOk: what it answers.
-/
import Derived.Test.YtngcldjkpcmidaaJoint1
import Derived.Laws.BitsAllLaws
import Derived.Test.YtngcldjkpcmidaaRows
namespace Go.Proofs.Ytngcldjkpcmidaa
open Go.RowKit

theorem bits_one {f : Int} (h1 : 0 ≤ f) (h2 : f ≤ 7) : bits .and .i64 f 1 = if f % 2 = 1 then 1 else 0 := by
  obtain rfl | rfl | rfl | rfl | rfl | rfl | rfl | rfl : f = 0 ∨ f = 1 ∨ f = 2 ∨ f = 3 ∨ f = 4 ∨ f = 5 ∨ f = 6 ∨ f = 7 := by omega
  all_goals decide
theorem bits_two {f : Int} (h1 : 0 ≤ f) (h2 : f ≤ 7) : bits .and .i64 f 2 = if f / 2 % 2 = 1 then 2 else 0 := by
  obtain rfl | rfl | rfl | rfl | rfl | rfl | rfl | rfl : f = 0 ∨ f = 1 ∨ f = 2 ∨ f = 3 ∨ f = 4 ∨ f = 5 ∨ f = 6 ∨ f = 7 := by omega
  all_goals decide

set_option maxRecDepth 1000000 in
theorem isNum_any (x : Int) (w : World) : Calls Try.prog 38 #[.int .i64 x] w fun e w' => e = .returned (.bool (within x 0 65535)) ∧ w' = w := by
  obtain ⟨p, hp⟩ : ∃ p, IntKind.u16.wrap x = p := ⟨_, rfl⟩
  have hp2 : 0 ≤ p ∧ p ≤ 65535 := by rw [IntKind.wrap_u16] at hp; omega
  obtain ⟨p1, p2⟩ := hp2
  have HR : Hid (within x 0 65535 = (p == x)) := by
    show _ = _
    rw [IntKind.wrap_u16] at hp
    rw [Bool.eq_iff_iff, within_iff, beq_iff_eq]
    omega
  go_enter Try.func38, Try.ntmps38
  go_wp2
  go_ret
  exact ⟨by rw [HR.out]; rfl, rfl⟩

set_option maxRecDepth 1000000 in
set_option maxHeartbeats 4000000 in
theorem implSegOk_any (d : SegD) (hs : d.body.size ≤ 9223372036854775000) (w : World) :
    Calls Try.prog 25 #[.agg #[.int .i64 d.num, .int .i64 d.ack, .int .i64 d.flags, .string d.body]] w fun e w' => e = .returned (.bool (segOk d)) ∧ Below w.heap.size w w' := by
  obtain ⟨a, b, f, s⟩ := d
  dsimp only at hs ⊢
  have HB := hid (below_more (Below.refl w.heap.size w) (.cells #[.int .i64 a, .int .i64 b, .int .i64 f, .string s] 34))
  have hx : BlockIs (w.alloc (.cells #[.int .i64 a, .int .i64 b, .int .i64 f, .string s] 34)) w.heap.size 34 [.int .i64 a, .int .i64 b, .int .i64 f, .string s] := heap_alloc_new w _
  obtain ⟨W, hW⟩ : ∃ W, w.alloc (.cells #[.int .i64 a, .int .i64 b, .int .i64 f, .string s] 34) = W := ⟨_, rfl⟩
  rw [hW] at HB hx
  have X0 := hid hx
  have c0 := hx.cell (j := 0) rfl
  have c1 := hx.cell (j := 1) rfl
  have c2 := hx.cell (j := 2) rfl
  have c3 := hx.cell (j := 3) rfl
  clear hx
  have m0 := fun w => isNum_any a w
  cases h0 : within a 0 65535 with
  | false =>
    rw [h0] at m0
    have n0 := hid m0
    clear m0
    have HR : Hid (segOk ⟨a, b, f, s⟩ = false) := segOk_no fun h => by rw [within_iff.2 h.1] at h0; cases h0
    clear h0
    go_enter Try.func25, Try.ntmps25
    go_wp2_with (first | (go_at_call 38; with_reducible refine Calls.mono (n0.out _) ?_; rintro e w1 ⟨rfl, hw⟩; rw [hw]; clear hw w1) | fail)
    go_ret
    exact ⟨by rw [HR.out]; rfl, HB.out⟩
  | true =>
    rw [h0] at m0
    have n0 := hid m0
    clear m0
    have m1 := fun w => isNum_any b w
    cases h1 : within b 0 65535 with
    | false =>
      rw [h1] at m1
      have n1 := hid m1
      clear m1
      have HR : Hid (segOk ⟨a, b, f, s⟩ = false) := segOk_no fun h => by rw [within_iff.2 h.2.1] at h1; cases h1
      clear h0 h1
      go_enter Try.func25, Try.ntmps25
      go_wp2_with (first | (go_at_call 38; with_reducible refine Calls.mono (n0.out _) ?_; rintro e w1 ⟨rfl, hw⟩; rw [hw]; clear hw w1) | (go_at_call 38; with_reducible refine Calls.mono (n1.out _) ?_; rintro e w1 ⟨rfl, hw⟩; rw [hw]; clear hw w1) | fail)
      go_ret
      exact ⟨by rw [HR.out]; rfl, HB.out⟩
    | true =>
      rw [h1] at m1
      have n1 := hid m1
      clear m1
      have p0 := within_iff.1 h0
      have p1 := within_iff.1 h1
      clear h0 h1
      by_cases q1 : 0 ≤ f
      rotate_left
      · have HR : Hid (segOk ⟨a, b, f, s⟩ = false) := segOk_no fun h => by have h9 := h.2.2.1; dsimp only at h9; omega
        go_enter Try.func25, Try.ntmps25
        go_wp2_with (first | (go_at_call 38; with_reducible refine Calls.mono (n0.out _) ?_; rintro e w1 ⟨rfl, hw⟩; rw [hw]; clear hw w1) | (go_at_call 38; with_reducible refine Calls.mono (n1.out _) ?_; rintro e w1 ⟨rfl, hw⟩; rw [hw]; clear hw w1) | fail)
        go_ret
        exact ⟨by rw [HR.out]; rfl, HB.out⟩
      by_cases q2 : f ≤ 7
      rotate_left
      · have HR : Hid (segOk ⟨a, b, f, s⟩ = false) := segOk_no fun h => by have h9 := h.2.2.1; dsimp only at h9; omega
        go_enter Try.func25, Try.ntmps25
        go_wp2_with (first | (go_at_call 38; with_reducible refine Calls.mono (n0.out _) ?_; rintro e w1 ⟨rfl, hw⟩; rw [hw]; clear hw w1) | (go_at_call 38; with_reducible refine Calls.mono (n1.out _) ?_; rintro e w1 ⟨rfl, hw⟩; rw [hw]; clear hw w1) | fail)
        go_ret
        exact ⟨by rw [HR.out]; rfl, HB.out⟩
      by_cases q3 : (s.size : Int) ≤ 8
      rotate_left
      · have HR : Hid (segOk ⟨a, b, f, s⟩ = false) := segOk_no fun h => by have h9 := h.2.2.2.1; dsimp only at h9; omega
        go_enter Try.func25, Try.ntmps25
        go_wp2_with (first | (go_at_call 38; with_reducible refine Calls.mono (n0.out _) ?_; rintro e w1 ⟨rfl, hw⟩; rw [hw]; clear hw w1) | (go_at_call 38; with_reducible refine Calls.mono (n1.out _) ?_; rintro e w1 ⟨rfl, hw⟩; rw [hw]; clear hw w1) | fail)
        go_ret
        exact ⟨by rw [HR.out]; rfl, HB.out⟩
      have HE : Hid (segOk ⟨a, b, f, s⟩ = ((!decide (f % 2 = 1) || decide (s.size = 0)) && (decide (f / 2 % 2 = 1) || decide (b = 0)))) := by show _ = _; simp only [segOk, within_yes p0.1 p0.2, within_yes p1.1 p1.2, within_yes q1 q2, q3, decide_true, Bool.true_and]
      have hb1 := bits_one q1 q2
      have hb2 := bits_two q1 q2
      clear p0 p1
      by_cases f1 : f % 2 = 1
      · by_cases z : s.size = 0
        · have hse : (s.toList == []) = true := by rw [beq_iff_eq, ByteArray.toList_eq]; exact List.eq_nil_of_length_eq_zero z
          by_cases f2 : f / 2 % 2 = 1
          · skip
            rw [if_pos f1] at hb1
            rw [if_pos f2] at hb2
            have HR : Hid (segOk ⟨a, b, f, s⟩ = true) := by show _ = _; rw [HE.out]; simp [f1, f2, z]
            clear HE
            go_enter Try.func25, Try.ntmps25
            go_wp2_with (first | (go_at_call 38; with_reducible refine Calls.mono (n0.out _) ?_; rintro e w1 ⟨rfl, hw⟩; rw [hw]; clear hw w1) | (go_at_call 38; with_reducible refine Calls.mono (n1.out _) ?_; rintro e w1 ⟨rfl, hw⟩; rw [hw]; clear hw w1) | fail)
            go_ret
            exact ⟨by rw [HR.out]; rfl, HB.out⟩
          · by_cases zb : b = 0
            · skip
              rw [if_pos f1] at hb1
              rw [if_neg f2] at hb2
              have HR : Hid (segOk ⟨a, b, f, s⟩ = true) := by show _ = _; rw [HE.out]; simp [f1, f2, z, zb]
              subst zb
              clear HE
              go_enter Try.func25, Try.ntmps25
              go_wp2_with (first | (go_at_call 38; with_reducible refine Calls.mono (n0.out _) ?_; rintro e w1 ⟨rfl, hw⟩; rw [hw]; clear hw w1) | (go_at_call 38; with_reducible refine Calls.mono (n1.out _) ?_; rintro e w1 ⟨rfl, hw⟩; rw [hw]; clear hw w1) | fail)
              go_ret
              exact ⟨by rw [HR.out]; rfl, HB.out⟩
            · skip
              rw [if_pos f1] at hb1
              rw [if_neg f2] at hb2
              have HR : Hid (segOk ⟨a, b, f, s⟩ = false) := by show _ = _; rw [HE.out]; simp [f1, f2, z, zb]
              have zb2 : (b == 0) = false := by rw [beq_eq_false_iff_ne]; exact zb
              clear HE
              go_enter Try.func25, Try.ntmps25
              go_wp2_with (first | (go_at_call 38; with_reducible refine Calls.mono (n0.out _) ?_; rintro e w1 ⟨rfl, hw⟩; rw [hw]; clear hw w1) | (go_at_call 38; with_reducible refine Calls.mono (n1.out _) ?_; rintro e w1 ⟨rfl, hw⟩; rw [hw]; clear hw w1) | fail)
              go_ret
              exact ⟨by rw [HR.out]; rfl, HB.out⟩
        · have hse : (s.toList == []) = false := by rw [beq_eq_false_iff_ne, ByteArray.toList_eq]; intro h; exact z (show s.data.toList.length = 0 by rw [h]; rfl)
          rw [if_pos f1] at hb1
          have HR : Hid (segOk ⟨a, b, f, s⟩ = false) := by show _ = _; rw [HE.out]; simp [f1, z]
          clear HE
          go_enter Try.func25, Try.ntmps25
          go_wp2_with (first | (go_at_call 38; with_reducible refine Calls.mono (n0.out _) ?_; rintro e w1 ⟨rfl, hw⟩; rw [hw]; clear hw w1) | (go_at_call 38; with_reducible refine Calls.mono (n1.out _) ?_; rintro e w1 ⟨rfl, hw⟩; rw [hw]; clear hw w1) | fail)
          go_ret
          exact ⟨by rw [HR.out]; rfl, HB.out⟩
      · skip
        by_cases f2 : f / 2 % 2 = 1
        · skip
          rw [if_neg f1] at hb1
          rw [if_pos f2] at hb2
          have HR : Hid (segOk ⟨a, b, f, s⟩ = true) := by show _ = _; rw [HE.out]; simp [f1, f2]
          clear HE
          go_enter Try.func25, Try.ntmps25
          go_wp2_with (first | (go_at_call 38; with_reducible refine Calls.mono (n0.out _) ?_; rintro e w1 ⟨rfl, hw⟩; rw [hw]; clear hw w1) | (go_at_call 38; with_reducible refine Calls.mono (n1.out _) ?_; rintro e w1 ⟨rfl, hw⟩; rw [hw]; clear hw w1) | fail)
          go_ret
          exact ⟨by rw [HR.out]; rfl, HB.out⟩
        · by_cases zb : b = 0
          · skip
            rw [if_neg f1] at hb1
            rw [if_neg f2] at hb2
            have HR : Hid (segOk ⟨a, b, f, s⟩ = true) := by show _ = _; rw [HE.out]; simp [f1, f2, zb]
            subst zb
            clear HE
            go_enter Try.func25, Try.ntmps25
            go_wp2_with (first | (go_at_call 38; with_reducible refine Calls.mono (n0.out _) ?_; rintro e w1 ⟨rfl, hw⟩; rw [hw]; clear hw w1) | (go_at_call 38; with_reducible refine Calls.mono (n1.out _) ?_; rintro e w1 ⟨rfl, hw⟩; rw [hw]; clear hw w1) | fail)
            go_ret
            exact ⟨by rw [HR.out]; rfl, HB.out⟩
          · skip
            rw [if_neg f1] at hb1
            rw [if_neg f2] at hb2
            have HR : Hid (segOk ⟨a, b, f, s⟩ = false) := by show _ = _; rw [HE.out]; simp [f1, f2, zb]
            have zb2 : (b == 0) = false := by rw [beq_eq_false_iff_ne]; exact zb
            clear HE
            go_enter Try.func25, Try.ntmps25
            go_wp2_with (first | (go_at_call 38; with_reducible refine Calls.mono (n0.out _) ?_; rintro e w1 ⟨rfl, hw⟩; rw [hw]; clear hw w1) | (go_at_call 38; with_reducible refine Calls.mono (n1.out _) ?_; rintro e w1 ⟨rfl, hw⟩; rw [hw]; clear hw w1) | fail)
            go_ret
            exact ⟨by rw [HR.out]; rfl, HB.out⟩
end Go.Proofs.Ytngcldjkpcmidaa
