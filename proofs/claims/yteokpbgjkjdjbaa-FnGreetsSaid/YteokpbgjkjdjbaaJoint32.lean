/-
  The walk of impl.(*endpoint).takeFin: the other end's end.
-/
import Derived.Test.YteokpbgjkjdjbaaJoint1
import Derived.Test.YteokpbgjkjdjbaaJoint15
namespace Go.Proofs.Yteokpbgjkjdjbaa
open Go.RowKit

set_option maxRecDepth 1000000 in
set_option maxHeartbeats 4000000 in
theorem takeFin_any (lo g : Nat) (d : StrD) (now : Int) (out : List SegD) (num : Int) (w : World) (h : EpIs w lo g d now out) :
    Calls Try.prog 87 #[.pointer (some ⟨g, 0, none⟩), .int .i64 num] w fun e w' => e = .returned (.tuple #[]) ∧ HrTo lo g w w' (endD num d) now out := by
  have H := hid h.hr
  obtain ⟨_, ao, cap, ov, oc, hb, _, _⟩ := h
  have c3 := hb.cell (j := 3) rfl
  have c7 := hb.cell (j := 7) rfl
  have c10 := hb.cell (j := 10) rfl
  have f3 := hb.thaw 3
  have f7 := hb.thaw 7
  have f10 := hb.thaw 10
  clear hb
  by_cases q1 : num = d.rcv
  rotate_left
  · have q1b : (num == d.rcv) = false := by rw [beq_eq_false_iff_ne]; exact q1
    have HR : Hid (endD num d = { d with owe := true }) := by show _ = _; rw [endD, if_neg (fun h => q1 h.1)]
    clear q1
    go_enter Try.func87, Try.ntmps87
    go_wp2
    go_end0
    exact ⟨rfl, by rw [HR.out]; exact H.out.owe true⟩
  have q1b : (num == d.rcv) = true := by rw [beq_iff_eq]; exact q1
  cases q2 : d.pf with
  | true =>
    have HR : Hid (endD num d = { d with owe := true }) := by show _ = _; rw [endD, if_neg (fun h => by rw [q2] at h; cases h.2)]
    rw [q2] at c7
    clear q1 q2
    go_enter Try.func87, Try.ntmps87
    go_wp2
    go_end0
    exact ⟨rfl, by rw [HR.out]; exact H.out.owe true⟩
  | false =>
    have HR : Hid (endD num d = { d with owe := true, pf := true, rcv := addNum d.rcv 1 }) := by show _ = _; rw [endD, if_pos ⟨q1, q2⟩]
    rw [q2] at c7
    clear q1 q2
    go_enter Try.func87, Try.ntmps87
    go_wp2_with fail
    refine Calls.mono (implAddNum_any d.rcv 1 _) ?_
    rintro e w1 ⟨rfl, hw1⟩
    rw [hw1]
    clear hw1 w1
    go_wp2
    go_end0
    exact ⟨rfl, by rw [HR.out]; exact ((H.out.owe true).pf true).rcv _⟩
end Go.Proofs.Yteokpbgjkjdjbaa
