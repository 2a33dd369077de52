/-
  The walk of laws.heldLateS: a row that holds marks is found to hold them.
-/
import Derived.Test.YtngcldjkpcmidaaJoint9
import Derived.Lib.QuietBelow
namespace Go.Proofs.Ytngcldjkpcmidaa
open Go.RowKit Go.Sort

set_option maxRecDepth 1000000 in
set_option maxHeartbeats 1000000 in
theorem heldLateS_any (ao : Option Addr) (n cap m : Nat) (hm : m ≤ 10000000) (hl : n ≤ 1048576) (w : World) (ha : LatesAt w ao (marksLate m n)) :
    Calls Try.prog 31 #[.slice ao n cap, .int .i64 m] w fun e w' => e = .returned (.int .i64 ((m + 2 * n : Nat) : Int)) ∧ Below w.heap.size w w' := by
  have HA := hid ha
  clear ha
  go_enter Try.func31, Try.ntmps31
  go_wp2
  go_loopg [1, 5] n (fun q y i wr => ∃ (k : Nat), k + q = n ∧ i = .int .i64 k ∧ y = .int .i64 ((m + 2 * k : Nat) : Int) ∧ Hid (Below w.heap.size w wr))
  case atStart => exact ⟨0, by omega, rfl, rfl, (show Below _ _ _ from Below.refl _ _)⟩
  case round =>
    obtain ⟨k, hkg, rfl, rfl, BR⟩ := hrel
    cases gk with
    | zero =>
      have hlt : ¬ (k : Int) < (n : Int) := by omega
      obtain rfl : k = n := by omega
      go_wp2
      go_ret
      exact ⟨rfl, BR.out⟩
    | succ q =>
      have hlt : k < n := by omega
      have hlt' : (k : Int) < (n : Int) := by omega
      have hkm : k < (marksLate m n).length := by rw [marksLate_length]; exact hlt
      have hne : marksLate m n ≠ [] := by intro e; rw [e] at hkm; simp at hkm
      have hmk : (marksLate m n)[k] = markLateD m k := by simp [marksLate]
      obtain ⟨b, off, rfl, hc⟩ := HA.out.on BR.out hne
      obtain ⟨x0, x1⟩ := hc k hkm
      rw [hmk] at x0 x1
      simp only [markLateD] at x0 x1
      clear hmk hne hkm hc
      obtain ⟨K, hK⟩ : ∃ K, m + 2 * k = K := ⟨_, rfl⟩
      have hKl : K ≤ 20000000 := by omega
      rw [hK] at x0 x1 ⊢
      go_wp2
      have X1 := cell_regrown x1
      have C1 := hid (fun d os => Calls.regrown_of (w := wr) (d := d) (os := os) (markText_any (K + 1) (by omega) _))
      clear x0 x1
      refine wp_region_quiet_below (by kernel_rfl) (by kernel_rfl) ?_
      repeat (first | go_big_quiet_step (first | (go_at_call 50; exact C1.out _ _) | fail) | quiet_step (first | (go_at_call 50; exact C1.out _ _) | fail))
      refine wpQuiet_nil ?_
      intro _ hw'
      obtain ⟨⟨dq, osq⟩, hw''⟩ := hw'
      subst hw''
      have b1 := below_regrown wr dq osq
      generalize grow (redrawn wr dq) osq = w1 at b1 ⊢
      have B1 := hid (below_via BR.out b1)
      clear X1 C1 b1
      have BL := B1
      go_wp2
      go_roundg q
      case measure => omega
      case rel => exact ⟨k + 1, by omega, by go_num, by rw [← show K + 2 = m + 2 * (k + 1) by omega]; go_num, BL⟩
end Go.Proofs.Ytngcldjkpcmidaa
