/-
  The walks of impl.idOk, limitOk, idOrNobody, peerOk.
-/
import Derived.Test.YteceaohhnjlmbaaJoint1
namespace Go.Proofs.Yteceaohhnjlmbaa
open Go.RowKit Go.Sort

set_option maxRecDepth 1000000 in
theorem idOkN_any (x : Int) (w : World) : Calls Try.prog 32 #[.int .i64 x] w fun e w' => e = .returned (.bool (within x 1 4)) ∧ w' = w := by
  unfold within
  go_enter Try.func32, Try.ntmps32
  go_wp2
  all_goals (go_ret; exact ⟨by simp; omega, rfl⟩)
set_option maxRecDepth 1000000 in
theorem limitOk_any (x : Int) (w : World) : Calls Try.prog 37 #[.int .i64 x] w fun e w' => e = .returned (.bool (within x 1 20)) ∧ w' = w := by
  unfold within
  go_enter Try.func37, Try.ntmps37
  go_wp2
  all_goals (go_ret; exact ⟨by simp; omega, rfl⟩)
set_option maxRecDepth 1000000 in
theorem idOrNobody_any (x : Int) (w : World) : Calls Try.prog 36 #[.int .i64 x] w fun e w' => e = .returned (.bool (within x 0 4)) ∧ w' = w := by
  by_cases h0 : x = 0
  · have hb : (x == 0) = true := by rw [beq_iff_eq]; exact h0
    have HR := hid (within_yes (x := x) (a := 0) (b := 4) (by omega) (by omega))
    go_enter Try.func36, Try.ntmps36
    go_wp2
    go_ret
    exact ⟨by rw [HR.out]; first | rfl | (simp [h0]), rfl⟩
  · have hb : (x == 0) = false := by rw [beq_eq_false_iff_ne]; exact h0
    have C' := fun w => idOkN_any x w
    have he : within x 1 4 = within x 0 4 := by rw [Bool.eq_iff_iff, within_iff, within_iff]; omega
    rw [he] at C'
    obtain ⟨q, hq⟩ : ∃ q, within x 0 4 = q := ⟨_, rfl⟩
    rw [hq] at C' ⊢
    have C := hid C'
    clear C' he hq
    go_enter Try.func36, Try.ntmps36
    go_wp2_with (go_at_call 32; refine (C.out _).mono ?_; rintro e w1 ⟨rfl, hw⟩; rw [hw]; clear hw w1)
    go_ret
    exact ⟨rfl, rfl⟩
set_option maxRecDepth 1000000 in
set_option maxHeartbeats 1000000 in
theorem peerOk_any (f : PeerD) (last : Int) (h0 : 0 ≤ last) (h1 : last ≤ 1000000) (w : World) : Calls Try.prog 77 #[.agg #[.int .i64 f.pid, .int .i64 f.next, .int .i64 f.upto, .int .i64 f.sent], .int .i64 last] w fun e w' => e = .returned (.bool (peerOk f last)) ∧ Below w.heap.size w w' := by
  have hx : BlockIs (w.alloc (.cells #[.int .i64 f.pid, .int .i64 f.next, .int .i64 f.upto, .int .i64 f.sent] 60)) w.heap.size 60 [.int .i64 f.pid, .int .i64 f.next, .int .i64 f.upto, .int .i64 f.sent] := heap_alloc_new w _
  have B := hid (below_more (Below.refl w.heap.size w) (.cells #[.int .i64 f.pid, .int .i64 f.next, .int .i64 f.upto, .int .i64 f.sent] 60))
  obtain ⟨W, hW⟩ : ∃ W, w.alloc (.cells #[.int .i64 f.pid, .int .i64 f.next, .int .i64 f.upto, .int .i64 f.sent] 60) = W := ⟨_, rfl⟩
  rw [hW] at hx B
  have c0 := hx.cell (j := 0) rfl
  have c1 := hx.cell (j := 1) rfl
  have c2 := hx.cell (j := 2) rfl
  have c3 := hx.cell (j := 3) rfl
  obtain ⟨q, hq⟩ : ∃ q, peerOk f last = q := ⟨_, rfl⟩
  have HQ := hid hq
  rw [hq]
  clear hx hq
  go_enter Try.func77, Try.ntmps77
  go_wp2
  all_goals go_ret
  all_goals refine ⟨congrArg (fun z => Ending.returned (.bool z)) ?_, B.out⟩
  all_goals rw [← HQ.out, Bool.eq_iff_iff]
  all_goals simp [peerOk, within]
  all_goals omega
end Go.Proofs.Yteceaohhnjlmbaa
