/-
  The walk of laws.heldItemS: a row that holds marks is found to hold them.
-/
import Derived.Test.YtpbcblehebfpkaaJoint33
import Derived.Lib.QuietBelow
namespace Go.Proofs.Ytpbcblehebfpkaa
open Go.RowKit Go.Sort

set_option maxRecDepth 1000000 in
set_option maxHeartbeats 1000000 in
theorem heldItemS_any (ao : Option Addr) (n cap m : Nat) (hm : m ≤ 10000000) (hl : n ≤ 1048576) (w : World) (ha : ItemsAt w ao (marksItem m n)) :
    Calls Try.prog 24 #[.slice ao n cap, .int .i64 m] w fun e w' => e = .returned (.int .i64 ((m + 3 * n : Nat) : Int)) ∧ Below w.heap.size w w' := by
  have HA := hid ha
  clear ha
  go_enter Try.func24, Try.ntmps24
  go_wp2
  go_loopg [1, 5] n (fun q y i wr => ∃ (k : Nat), k + q = n ∧ i = .int .i64 k ∧ y = .int .i64 ((m + 3 * k : Nat) : Int) ∧ Hid (Below w.heap.size w wr))
  case atStart => exact ⟨0, by omega, rfl, rfl, (show Below _ _ _ from Below.refl _ _)⟩
  case round =>
    obtain ⟨k, hkg, rfl, rfl, BR⟩ := hrel
    cases gk with
    | zero =>
      have hlt : ¬ (k : Int) < (n : Int) := by omega
      obtain rfl : k = n := by omega
      go_wp2
      go_ret
      exact ⟨rfl, BR.out⟩
    | succ q =>
      have hlt : k < n := by omega
      have hlt' : (k : Int) < (n : Int) := by omega
      have hkm : k < (marksItem m n).length := by rw [marksItem_length]; exact hlt
      have hne : marksItem m n ≠ [] := by intro e; rw [e] at hkm; simp at hkm
      have hmk : (marksItem m n)[k] = markItemD m k := by simp [marksItem]
      obtain ⟨b, off, rfl, hc⟩ := HA.out.on BR.out hne
      obtain ⟨x0, x1, x2⟩ := hc k hkm
      rw [hmk] at x0 x1 x2
      simp only [markItemD] at x0 x1 x2
      clear hmk hne hkm hc
      obtain ⟨K, hK⟩ : ∃ K, m + 3 * k = K := ⟨_, rfl⟩
      have hKl : K ≤ 20000000 := by omega
      rw [hK] at x0 x1 x2 ⊢
      rw [show ((K + 2 : Nat) : Int) = (K : Int) + 2 by omega] at x2
      go_wp2
      have X0 := cell_regrown x0
      have C0 := hid (fun d os => Calls.regrown_of (w := wr) (d := d) (os := os) (markText_any (K) (by omega) _))
      have L0_1 := hid x1
      have L0_2 := hid x2
      clear x0 x1 x2
      refine wp_region_quiet_below (by kernel_rfl) (by kernel_rfl) ?_
      repeat (first | go_big_quiet_step (first | (go_at_call 44; exact C0.out _ _) | fail) | quiet_step (first | (go_at_call 44; exact C0.out _ _) | fail))
      refine wpQuiet_nil ?_
      intro _ hw'
      obtain ⟨⟨dq, osq⟩, hw''⟩ := hw'
      subst hw''
      have b0 := below_regrown wr dq osq
      generalize grow (redrawn wr dq) osq = w0 at b0 ⊢
      have x1 := (b0.cell (p := ⟨b, off + k * 3 + 1, none⟩) (World.block_lt_of_cell? wr _ L0_1.out)).trans L0_1.out
      have x2 := (b0.cell (p := ⟨b, off + k * 3 + 2, none⟩) (World.block_lt_of_cell? wr _ L0_2.out)).trans L0_2.out
      have B0 := hid (below_via BR.out b0)
      clear X0 C0 b0
      go_wp2
      have X1 := cell_regrown x1
      have C1 := hid (fun d os => Calls.regrown_of (w := w0) (d := d) (os := os) (markText_any (K + 1) (by omega) _))
      have L1_2 := hid x2
      clear x1 x2
      refine wp_region_quiet_below (by kernel_rfl) (by kernel_rfl) ?_
      repeat (first | go_big_quiet_step (first | (go_at_call 44; exact C1.out _ _) | fail) | quiet_step (first | (go_at_call 44; exact C1.out _ _) | fail))
      refine wpQuiet_nil ?_
      intro _ hw'
      obtain ⟨⟨dq, osq⟩, hw''⟩ := hw'
      subst hw''
      have b1 := below_regrown w0 dq osq
      generalize grow (redrawn w0 dq) osq = w1 at b1 ⊢
      have x2 := (b1.cell (p := ⟨b, off + k * 3 + 2, none⟩) (World.block_lt_of_cell? w0 _ L1_2.out)).trans L1_2.out
      have B1 := hid (below_via B0.out b1)
      clear X1 C1 b1
      have BL := B1
      go_wp2
      go_roundg q
      case measure => omega
      case rel => exact ⟨k + 1, by omega, by go_num, by rw [← show K + 3 = m + 3 * (k + 1) by omega]; go_num, BL⟩
end Go.Proofs.Ytpbcblehebfpkaa
