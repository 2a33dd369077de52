/-
  The walk of impl.(*endpoint).push: a state's way to send.
-/
import Derived.Test.YtcmcmhiodkjflaaJoint37
import Derived.Test.YtcmcmhiodkjflaaJoint38
import Derived.Test.YtcmcmhiodkjflaaJoint1
namespace Go.Proofs.Ytcmcmhiodkjflaa
open Go.RowKit

set_option maxRecDepth 1000000 in
theorem sendNothing_any (g : Nat) (w : World) : Calls Try.prog 48 #[.pointer (some ⟨g, 0, none⟩)] w fun e w' => e = .returned (.tuple #[]) ∧ w' = w := by
  go_enter Try.func48, Try.ntmps48
  go_wp2
  go_end0
  exact ⟨rfl, rfl⟩
set_option maxRecDepth 1000000 in
set_option maxHeartbeats 4000000 in
theorem push_any (lo g : Nat) (d : StrD) (now : Int) (hR : StrR d) (hnow : 0 ≤ now ∧ now ≤ 1000000000) (w : World) (h : EpIs w lo g d now []) :
    Calls Try.prog 28 #[.pointer (some ⟨g, 0, none⟩)] w fun e w' => e = .returned (.tuple #[]) ∧ EpTo lo g w w' (push1D now d) now (push1S now d) := by
  have H := hid h
  have HR := hid hR
  have ht := hR.times
  have hst := hR.st
  have hmf : ∀ (fn : Fn) (first cap : Array Value) (w : World), (Instr.makeFunc fn first cap).run Try.prog w = .ok (.func fn first cap) w := fun _ _ _ _ => rfl
  obtain ⟨_, ao, cap, ov, oc, hb, _, _⟩ := h
  have c0 := hb.cell (j := 0) rfl
  clear hb
  clear hR
  obtain ⟨st, hs⟩ : ∃ st, d.st = st := ⟨_, rfl⟩
  have HS := hid hs
  rw [hs] at c0 hst
  clear hs
  obtain rfl | rfl | rfl | rfl | rfl : st = 0 ∨ st = 1 ∨ st = 2 ∨ st = 3 ∨ st = 4 := by omega
  · have HD : Hid (push1D now d = d ∧ push1S now d = []) := by show _ ∧ _; simp [push1D, push1S, HS.out]
    clear hst
    go_enter Try.func28, Try.ntmps28
    go_wp2_with fail
    refine Calls.mono (sendNothing_any g w) ?_
    rintro e w1 ⟨rfl, hw1⟩
    rw [hw1]
    clear hw1 w1
    go_wp2
    go_end0
    exact ⟨rfl, by rw [HD.out.1, HD.out.2]; exact H.out.to⟩
  · have HD : Hid (push1D now d = d ∧ push1S now d = []) := by show _ ∧ _; simp [push1D, push1S, HS.out]
    clear hst
    go_enter Try.func28, Try.ntmps28
    go_wp2_with fail
    refine Calls.mono (sendNothing_any g w) ?_
    rintro e w1 ⟨rfl, hw1⟩
    rw [hw1]
    clear hw1 w1
    go_wp2
    go_end0
    exact ⟨rfl, by rw [HD.out.1, HD.out.2]; exact H.out.to⟩
  · have HD : Hid (push1D now d = greetD now d ∧ push1S now d = greetSegs now d ⟨d.iss, 0, 1, ByteArray.empty⟩) := by show _ ∧ _; simp [push1D, push1S, HS.out]
    clear hst
    go_enter Try.func28, Try.ntmps28
    go_wp2_with fail
    refine Calls.mono (sendCall_any lo g d now [] (by decide) ht hnow w H.out) ?_
    rintro e w1 ⟨rfl, h1⟩
    have H1 := hid h1
    clear h1
    go_wp2
    go_end0
    exact ⟨rfl, by rw [HD.out.1, HD.out.2]; exact H1.out⟩
  · have HD : Hid (push1D now d = greetD now d ∧ push1S now d = greetSegs now d ⟨d.iss, d.rcv, 3, ByteArray.empty⟩) := by show _ ∧ _; simp [push1D, push1S, HS.out]
    clear hst
    go_enter Try.func28, Try.ntmps28
    go_wp2_with fail
    refine Calls.mono (sendAnswer_any lo g d now [] (by decide) ht hnow w H.out) ?_
    rintro e w1 ⟨rfl, h1⟩
    have H1 := hid h1
    clear h1
    go_wp2
    go_end0
    exact ⟨rfl, by rw [HD.out.1, HD.out.2]; exact H1.out⟩
  · have HD : Hid (push1D now d = openD now d ∧ push1S now d = openSegs now d) := by show _ ∧ _; simp [push1D, push1S, HS.out]
    clear hst
    go_enter Try.func28, Try.ntmps28
    go_wp2_with fail
    refine Calls.mono (sendOpen_any lo g d now HR.out hnow w H.out) ?_
    rintro e w1 ⟨rfl, h1⟩
    have H1 := hid h1
    clear h1
    go_wp2
    go_end0
    exact ⟨rfl, by rw [HD.out.1, HD.out.2]; exact H1.out⟩
end Go.Proofs.Ytcmcmhiodkjflaa
