/-
  The walk of laws.heldDgramS: a row that holds marks is found to hold them.
-/
import Derived.Test.YtpknpodmoeaggabMarkDgram
import Derived.Lib.QuietBelow
namespace Go.Proofs.Ytpknpodmoeaggab
open Go.RowKit Go.Sort

set_option maxRecDepth 1000000 in
set_option maxHeartbeats 1000000 in
theorem heldDgramS_any (ao : Option Addr) (n cap m : Nat) (hm : m ≤ 10000000) (hl : n ≤ 1048576) (w : World) (ha : DgramsAt w ao (marksDgram m n)) :
    Calls Try.prog 16 #[.slice ao n cap, .int .i64 m] w fun e w' => e = .returned (.int .i64 ((m + 6 * n : Nat) : Int)) ∧ Below w.heap.size w w' := by
  have HA := hid ha
  clear ha
  go_enter Try.func16, Try.ntmps16
  go_wp2
  go_loopg [1, 5] n (fun q y i wr => ∃ (k : Nat), k + q = n ∧ i = .int .i64 k ∧ y = .int .i64 ((m + 6 * k : Nat) : Int) ∧ Hid (Below w.heap.size w wr))
  case atStart => exact ⟨0, by omega, rfl, rfl, (show Below _ _ _ from Below.refl _ _)⟩
  case round =>
    obtain ⟨k, hkg, rfl, rfl, BR⟩ := hrel
    cases gk with
    | zero =>
      have hlt : ¬ (k : Int) < (n : Int) := by omega
      obtain rfl : k = n := by omega
      go_wp2
      go_ret
      exact ⟨rfl, BR.out⟩
    | succ q =>
      have hlt : k < n := by omega
      have hlt' : (k : Int) < (n : Int) := by omega
      have hkm : k < (marksDgram m n).length := by rw [marksDgram_length]; exact hlt
      have hne : marksDgram m n ≠ [] := by intro e; rw [e] at hkm; simp at hkm
      have hmk : (marksDgram m n)[k] = markDgramD m k := by simp [marksDgram]
      obtain ⟨b, off, rfl, hc⟩ := HA.out.on BR.out hne
      obtain ⟨x0, x1, x2, x3, x4, x5⟩ := hc k hkm
      rw [hmk] at x0 x1 x2 x3 x4 x5
      simp only [markDgramD] at x0 x1 x2 x3 x4 x5
      clear hmk hne hkm hc
      obtain ⟨K, hK⟩ : ∃ K, m + 6 * k = K := ⟨_, rfl⟩
      have hKl : K ≤ 20000000 := by omega
      rw [hK] at x0 x1 x2 x3 x4 x5 ⊢
      rw [show ((K + 1 : Nat) : Int) = (K : Int) + 1 by omega] at x1
      rw [show ((K + 2 : Nat) : Int) = (K : Int) + 1 + 1 by omega] at x2
      rw [show ((K + 3 : Nat) : Int) = (K : Int) + 1 + 1 + 1 by omega] at x3
      have hm3a4 : ((K : Int) + 1 + 1 + 1 + 1).tmod 3 = ((K : Int) + 1 + 1 + 1 + 1) % 3 := Int.tmod_eq_emod_of_nonneg (by omega)
      have hm3b4 : (((K : Int) + 1 + 1 + 1 + 1) % 3 == 0) = m3 (K + 4) := by have := m3_of K 4; rw [← this]; congr 2 <;> omega
      obtain ⟨b4, hb4⟩ : ∃ b, m3 (K + 4) = b := ⟨_, rfl⟩
      rw [hb4] at hm3b4 x4
      clear hb4
      go_wp2
      have X5 := cell_regrown x5
      have C5 := hid (fun d os => Calls.regrown_of (w := wr) (d := d) (os := os) (markText_any (K + 5) (by omega) _))
      rw [show ((K + 5 : Nat) : Int) = (K : Int) + 1 + 1 + 1 + 1 + 1 by omega] at C5
      clear x0 x1 x2 x3 x4 x5
      refine wp_region_quiet_below (by kernel_rfl) (by kernel_rfl) ?_
      repeat (first | go_big_quiet_step (first | (go_at_call 32; exact C5.out _ _) | fail) | quiet_step (first | (go_at_call 32; exact C5.out _ _) | fail))
      refine wpQuiet_nil ?_
      intro _ hw'
      obtain ⟨⟨dq, osq⟩, hw''⟩ := hw'
      subst hw''
      have b5 := below_regrown wr dq osq
      generalize grow (redrawn wr dq) osq = w5 at b5 ⊢
      have B5 := hid (below_via BR.out b5)
      clear X5 C5 b5
      have BL := B5
      go_wp2
      go_roundg q
      case measure => omega
      case rel => exact ⟨k + 1, by omega, by go_num, by rw [← show K + 6 = m + 6 * (k + 1) by omega]; go_num, BL⟩
end Go.Proofs.Ytpknpodmoeaggab
