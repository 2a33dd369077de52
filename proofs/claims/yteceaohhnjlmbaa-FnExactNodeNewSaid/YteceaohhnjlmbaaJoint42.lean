/-
  The walk of laws.heldEntryS: entries that hold marks are found to hold them.
-/
import Derived.Test.YteceaohhnjlmbaaJoint38
import Derived.Lib.QuietBelow
namespace Go.Proofs.Yteceaohhnjlmbaa
open Go.RowKit Go.Sort

set_option maxRecDepth 1000000 in
set_option maxHeartbeats 1000000 in
theorem heldEntryS_any (ao : Option Addr) (n cap m : Nat) (hm : m ≤ 10000000) (hl : n ≤ 1048576) (w : World) (ha : EntsAt w ao (marksE m n)) :
    Calls Try.prog 67 #[.slice ao n cap, .int .i64 m] w fun e w' => e = .returned (.int .i64 ((m + 3 * n : Nat) : Int)) ∧ Below w.heap.size w w' := by
  have HA := hid ha
  clear ha
  go_enter Try.func67, Try.ntmps67
  go_wp2
  go_loopg [1, 5] n (fun q y i wr => ∃ (k : Nat), k + q = n ∧ i = .int .i64 k ∧ y = .int .i64 ((m + 3 * k : Nat) : Int) ∧ Hid (Below w.heap.size w wr))
  case atStart => exact ⟨0, by omega, rfl, rfl, (show Below _ _ _ from Below.refl _ _)⟩
  case round =>
    obtain ⟨k, hkg, rfl, rfl, BR⟩ := hrel
    cases gk with
    | zero =>
      have hlt : ¬ (k : Int) < (n : Int) := by omega
      obtain rfl : k = n := by omega
      go_wp2
      go_ret
      exact ⟨rfl, BR.out⟩
    | succ q =>
      have hlt : k < n := by omega
      have hlt' : (k : Int) < (n : Int) := by omega
      have hkm : k < (marksE m n).length := by rw [marksE_length]; exact hlt
      have hne : marksE m n ≠ [] := by intro e; rw [e] at hkm; simp at hkm
      have hmk : (marksE m n)[k] = markE m k := by simp [marksE]
      obtain ⟨b, off, rfl, hc⟩ := HA.out.on BR.out hne
      obtain ⟨x0, x1, x2⟩ := hc k hkm
      rw [hmk] at x0 x1 x2
      simp only [markE] at x0 x1 x2
      clear hmk hne hkm hc
      obtain ⟨K, hK⟩ : ∃ K, m + 3 * k = K := ⟨_, rfl⟩
      have hKl : K ≤ 20000000 := by omega
      rw [hK] at x0 x1 x2 ⊢
      rw [show ((K + 1 : Nat) : Int) = (K : Int) + 1 by omega] at x1
      go_wp2
      have X2 := cell_regrown x2
      have C1 := hid (fun d os => Calls.regrown_of (w := wr) (d := d) (os := os) (markText_any (K + 2) (by omega) _))
      clear x0 x1 x2
      refine wp_region_quiet_below (by kernel_rfl) (by kernel_rfl) ?_
      repeat (first | go_big_quiet_step (first | (go_at_call 80; exact C1.out _ _) | fail) | quiet_step (first | (go_at_call 80; exact C1.out _ _) | fail))
      refine wpQuiet_nil ?_
      intro _ hw'
      obtain ⟨⟨dq, osq⟩, hw''⟩ := hw'
      subst hw''
      have b1 := below_regrown wr dq osq
      generalize grow (redrawn wr dq) osq = w1 at b1 ⊢
      have B1 := hid (below_via BR.out b1)
      clear X2 C1 b1 BR
      go_wp2
      go_roundg q
      case measure => omega
      case rel => exact ⟨k + 1, by omega, by go_num, by rw [← show K + 3 = m + 3 * (k + 1) by omega]; go_num, B1⟩

end Go.Proofs.Yteceaohhnjlmbaa
