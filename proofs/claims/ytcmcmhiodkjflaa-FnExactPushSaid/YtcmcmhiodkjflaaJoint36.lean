/-
  The walk of impl.(*endpoint).sendFin.
-/
import Derived.Test.YtcmcmhiodkjflaaJoint34
import Derived.Deep.QuietTactic
import Derived.BigQuiet
import Derived.Lib.QuietBelow
namespace Go.Proofs.Ytcmcmhiodkjflaa
open Go.RowKit

set_option maxRecDepth 1000000 in
set_option maxHeartbeats 4000000 in
theorem sendFin_any (lo g : Nat) (d : StrD) (now : Int) (out : List SegD) (hn : out.length ≤ 100) (_hw : d.wait.size ≤ 1048576) (hs : 0 ≤ d.sent ∧ d.sent ≤ 1048576) (w : World) (h : EpIs w lo g d now out) :
    Calls Try.prog 68 #[.pointer (some ⟨g, 0, none⟩)] w fun e w' => e = .returned (.tuple #[]) ∧ EpTo lo g w w' (finD d) now (out ++ finSegs d) := by
  have H := hid h
  obtain ⟨s1, s2⟩ := hs
  obtain ⟨_, ao, cap, ov, oc, hb, _, _⟩ := h
  have c4 := hb.cell (j := 4) rfl
  have c5 := hb.cell (j := 5) rfl
  have c6 := hb.cell (j := 6) rfl
  clear hb
  by_cases h1 : d.fin = 1
  rotate_left
  · have h1b : (d.fin == 1) = false := by rw [beq_eq_false_iff_ne]; exact h1
    have HR : Hid (finD d = d ∧ finSegs d = []) := by show _ ∧ _; simp [finD, finSegs, finB, h1]
    rw [HR.out.1, HR.out.2, List.append_nil]
    go_enter Try.func68, Try.ntmps68
    go_wp2
    go_quiet (fail)
    go_wp2
    go_end0
    exact ⟨rfl, H.out.to.on (below_drewN (Below.refl _ _) _)⟩
  have h1b : (d.fin == 1) = true := by rw [beq_iff_eq]; exact h1
  by_cases h2 : d.sent = d.wait.size
  rotate_left
  · have h2b : (d.sent == (d.wait.size : Int)) = false := by rw [beq_eq_false_iff_ne]; exact h2
    have HR0 := hid h1
    have HR : Hid (finD d = d ∧ finSegs d = []) := by show _ ∧ _; simp [finD, finSegs, finB, h2]
    rw [HR.out.1, HR.out.2, List.append_nil]
    clear h1
    go_enter Try.func68, Try.ntmps68
    go_wp2
    go_quiet (fail)
    go_wp2
    go_end0
    exact ⟨rfl, H.out.to.on (below_drewN (Below.refl _ _) _)⟩
  have h2b : (d.sent == (d.wait.size : Int)) = true := by rw [beq_iff_eq]; exact h2
  have HR : Hid (finD d = { d with fin := 2 } ∧ finSegs d = [⟨addNum d.una d.sent, d.rcv, 6, ByteArray.empty⟩]) := by show _ ∧ _; simp only [finD, finSegs, finB, decide_eq_true h1, decide_eq_true h2, Bool.and_self, if_true, and_self]
  rw [HR.out.1, HR.out.2]
  clear h1 h2 HR
  go_enter Try.func68, Try.ntmps68
  go_wp2
  go_quiet (fail)
  have HT := hid (show EpTo lo g w (w.drewN nq) d now out from H.out.to.on (below_drewN (Below.refl _ _) nq))
  have c5b := (show EpIs _ lo g d now out from HT.out.1)
  obtain ⟨_, ao2, cap2, ov2, oc2, hb2, _, _⟩ := c5b
  have k5 := hb2.cell (j := 5) rfl
  clear hb2
  go_wp2_with fail
  refine Calls.mono (send_any lo g d now out 6 d.sent ByteArray.empty hn (by decide) _ HT.out.1) ?_
  rintro e w1 ⟨rfl, h1⟩
  have H1 := hid (HT.out.trans h1)
  clear h1 HT
  obtain ⟨_, ao1, cap1, ov1, oc1, hb1, _, _⟩ := H1.out.1
  have k6 := hb1.cell (j := 6) rfl
  have j6 := hb1.thaw 6
  clear hb1
  go_wp2
  go_end0
  exact ⟨rfl, H1.out.fin 2⟩
end Go.Proofs.Ytcmcmhiodkjflaa
