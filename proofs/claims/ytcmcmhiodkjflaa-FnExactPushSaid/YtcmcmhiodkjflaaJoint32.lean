/-
  The walks of impl.(*endpoint).flight, takeBack.
-/
import Derived.Test.YtcmcmhiodkjflaaJoint1
namespace Go.Proofs.Ytcmcmhiodkjflaa
open Go.RowKit

set_option maxRecDepth 1000000 in
set_option maxHeartbeats 4000000 in
theorem flight_any (lo g : Nat) (d : StrD) (now : Int) (out : List SegD) (hs : 0 ≤ d.sent ∧ d.sent ≤ 1048576) (w : World) (h : EpIs w lo g d now out) :
    Calls Try.prog 65 #[.pointer (some ⟨g, 0, none⟩)] w fun e w' => e = .returned (.int .i64 (flightD d)) ∧ w' = w := by
  obtain ⟨s1, s2⟩ := hs
  obtain ⟨_, ao, cap, ov, oc, hb, _, _⟩ := h
  have c5 := hb.cell (j := 5) rfl
  have c6 := hb.cell (j := 6) rfl
  clear hb
  by_cases h2 : d.fin = 2
  · have h2b : (d.fin == 2) = true := by rw [beq_iff_eq]; exact h2
    have HR : Hid (flightD d = d.sent + 1) := by show _ = _; rw [flightD, if_pos h2]
    clear h2
    go_enter Try.func65, Try.ntmps65
    go_wp2
    go_ret
    exact ⟨by rw [HR.out]; rfl, rfl⟩
  · have h2b : (d.fin == 2) = false := by rw [beq_eq_false_iff_ne]; exact h2
    have HR : Hid (flightD d = d.sent) := by show _ = _; rw [flightD, if_neg h2]
    go_enter Try.func65, Try.ntmps65
    go_wp2
    go_ret
    exact ⟨by rw [HR.out]; rfl, rfl⟩

set_option maxRecDepth 1000000 in
set_option maxHeartbeats 4000000 in
theorem takeBack_any (lo g : Nat) (d : StrD) (now : Int) (out : List SegD) (w : World) (h : EpIs w lo g d now out) :
    Calls Try.prog 66 #[.pointer (some ⟨g, 0, none⟩)] w fun e w' => e = .returned (.tuple #[]) ∧ EpTo lo g w w' (backD d) now out := by
  have H := hid h.to
  obtain ⟨_, ao, cap, ov, oc, hb, _, _⟩ := h
  have c5 := hb.cell (j := 5) rfl
  have c6 := hb.cell (j := 6) rfl
  have f5 := hb.thaw 5
  have f6 := hb.thaw 6
  clear hb
  by_cases h2 : d.fin = 2
  · have h2b : (d.fin == 2) = true := by rw [beq_iff_eq]; exact h2
    have HR : Hid (backD d = { d with sent := 0, fin := 1 }) := by show _ = _; rw [backD, if_pos h2]
    clear h2
    go_enter Try.func66, Try.ntmps66
    go_wp2
    go_end0
    exact ⟨rfl, by rw [HR.out]; exact (H.out.sent _).fin _⟩
  · have h2b : (d.fin == 2) = false := by rw [beq_eq_false_iff_ne]; exact h2
    have HR : Hid (backD d = { d with sent := 0 }) := by show _ = _; rw [backD, if_neg h2]
    go_enter Try.func66, Try.ntmps66
    go_wp2
    go_end0
    exact ⟨rfl, by rw [HR.out]; exact H.out.sent _⟩
end Go.Proofs.Ytcmcmhiodkjflaa
