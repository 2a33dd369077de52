/-
  The walk of impl.(*endpoint).pause.
-/
import Derived.Test.YtcmcmhiodkjflaaJoint1
import Derived.BigRegion
namespace Go.Proofs.Ytcmcmhiodkjflaa
open Go.RowKit

set_option maxRecDepth 1000000 in
set_option maxHeartbeats 4000000 in
theorem pause_any (lo g : Nat) (d : StrD) (now : Int) (out : List SegD) (ht : 0 ≤ d.times ∧ d.times ≤ 12) (hn : 0 ≤ now ∧ now ≤ 1000000000) (w : World) (h : EpIs w lo g d now out) :
    Calls Try.prog 69 #[.pointer (some ⟨g, 0, none⟩)] w fun e w' => e = .returned (.tuple #[]) ∧ EpTo lo g w w' (pauseD now d) now out := by
  obtain ⟨n1, n2⟩ := hn
  obtain ⟨t1, t2⟩ := ht
  have H := hid h.to
  obtain ⟨_, ao, cap, ov, oc, hb, _, _⟩ := h
  have c12 := hb.cell (j := 12) rfl
  have c13 := hb.cell (j := 13) rfl
  have c11 := hb.cell (j := 11) rfl
  have f12 := hb.thaw 12
  have f11 := hb.thaw 11
  clear hb
  obtain ⟨t, hd⟩ : ∃ t, d.times = t := ⟨_, rfl⟩
  rw [hd] at c12 t1 t2
  have HP : Hid (pauseD now d = { d with times := moreT t, due := now + pow64 (moreT t) }) := by show _ = _; rw [pauseD, hd]
  rw [HP.out]
  clear HP hd
  obtain rfl | rfl | rfl | rfl | rfl | rfl | rfl | rfl | rfl | rfl | rfl | rfl | rfl : t = 0 ∨ t = 1 ∨ t = 2 ∨ t = 3 ∨ t = 4 ∨ t = 5 ∨ t = 6 ∨ t = 7 ∨ t = 8 ∨ t = 9 ∨ t = 10 ∨ t = 11 ∨ t = 12 := by omega
  all_goals
    clear t1 t2
    go_enter Try.func69, Try.ntmps69
    go_wp2
    go_region
    go_wp2
    go_end0
    exact ⟨rfl, (H.out.times _).drew.due _⟩
end Go.Proofs.Ytcmcmhiodkjflaa
