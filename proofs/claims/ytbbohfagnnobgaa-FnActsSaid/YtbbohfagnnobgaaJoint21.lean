/-
  The walks of laws.heldFileS, heldDisk: a disk that holds marks is found to hold them.
-/
import Derived.Test.YtbbohfagnnobgaaJoint20
import Derived.Lib.QuietBelow
namespace Go.Proofs.Ytbbohfagnnobgaa
open Go.RowKit Go.Sort

set_option maxRecDepth 1000000 in
set_option maxHeartbeats 1000000 in
theorem heldFileS_any (ao : Option Addr) (n cap m : Nat) (hm : m ≤ 10000000) (hl : n ≤ 1048576) (w : World) (ha : FilesAt w ao (marksF m n)) :
    Calls Try.prog 58 #[.slice ao n cap, .int .i64 m] w fun e w' => e = .returned (.int .i64 ((m + 3 * n : Nat) : Int)) ∧ Below w.heap.size w w' := by
  have HA := hid ha
  clear ha
  go_enter Try.func58, Try.ntmps58
  go_wp2
  go_loopg [1, 5] n (fun q y i wr => ∃ (k : Nat), k + q = n ∧ i = .int .i64 k ∧ y = .int .i64 ((m + 3 * k : Nat) : Int) ∧ Hid (Below w.heap.size w wr))
  case atStart => exact ⟨0, by omega, rfl, rfl, (show Below _ _ _ from Below.refl _ _)⟩
  case round =>
    obtain ⟨k, hkg, rfl, rfl, BR⟩ := hrel
    cases gk with
    | zero =>
      have hlt : ¬ (k : Int) < (n : Int) := by omega
      obtain rfl : k = n := by omega
      go_wp2
      go_ret
      exact ⟨rfl, BR.out⟩
    | succ q =>
      have hlt : k < n := by omega
      have hlt' : (k : Int) < (n : Int) := by omega
      have hkm : k < (marksF m n).length := by rw [marksF_length]; exact hlt
      have hne : marksF m n ≠ [] := by intro e; rw [e] at hkm; simp at hkm
      have hmk : (marksF m n)[k] = markF m k := by simp [marksF]
      obtain ⟨b, off, rfl, hc⟩ := HA.out.on BR.out hne
      obtain ⟨x0, x1, x2⟩ := hc k hkm
      rw [hmk] at x0 x1 x2
      simp only [markF] at x0 x1 x2
      clear hmk hne hkm hc
      obtain ⟨K, hK⟩ : ∃ K, m + 3 * k = K := ⟨_, rfl⟩
      have hKl : K ≤ 20000000 := by omega
      rw [hK] at x0 x1 x2 ⊢
      have X0 := cell_regrown x0
      have C1 := hid (fun d os => Calls.regrown_of (w := wr) (d := d) (os := os) (markText_any K (by omega) _))
      go_wp2
      refine wp_region_quiet_below (by kernel_rfl) (by kernel_rfl) ?_
      repeat (first | go_big_quiet_step (first | (go_at_call 60; exact C1.out _ _) | fail) | quiet_step (first | (go_at_call 60; exact C1.out _ _) | fail))
      refine wpQuiet_nil ?_
      intro _ hw'
      obtain ⟨⟨dq, osq⟩, hw''⟩ := hw'
      subst hw''
      have b1 := below_regrown wr dq osq
      generalize grow (redrawn wr dq) osq = w1 at b1 ⊢
      have B1 := hid (below_via BR.out b1)
      have y1 := (b1.cell (p := ⟨b, off + k * 3 + 1, none⟩) (World.block_lt_of_cell? wr _ x1)).trans x1
      have y2 := (b1.cell (p := ⟨b, off + k * 3 + 2, none⟩) (World.block_lt_of_cell? wr _ x2)).trans x2
      clear x0 x1 x2 X0 C1 b1 BR
      have Y1 := cell_regrown y1
      have C2 := hid (fun d os => Calls.regrown_of (w := w1) (d := d) (os := os) (markText_any (K + 1) (by omega) _))
      go_wp2
      refine wp_region_quiet_below (by kernel_rfl) (by kernel_rfl) ?_
      repeat (first | go_big_quiet_step (first | (go_at_call 60; exact C2.out _ _) | fail) | quiet_step (first | (go_at_call 60; exact C2.out _ _) | fail))
      refine wpQuiet_nil ?_
      intro _ hw'
      obtain ⟨⟨dq, osq⟩, hw''⟩ := hw'
      subst hw''
      have b2 := below_regrown w1 dq osq
      generalize grow (redrawn w1 dq) osq = w2 at b2 ⊢
      have B2 := hid (below_via B1.out b2)
      have z2 := (b2.cell (p := ⟨b, off + k * 3 + 2, none⟩) (World.block_lt_of_cell? w1 _ y2)).trans y2
      clear y1 y2 Y1 C2 b2 B1
      go_wp2
      go_roundg q
      case measure => omega
      case rel => exact ⟨k + 1, by omega, by go_num, by rw [← show K + 3 = m + 3 * (k + 1) by omega]; go_num, B2⟩

theorem heldDisk_any (ao : Option Addr) (n cap m : Nat) (hm : m ≤ 10000000) (hl : n ≤ 1048576) (w : World) (ha : FilesAt w ao (marksF m n)) :
    Calls Try.prog 28 #[.agg #[.slice ao n cap], .int .i64 m] w fun e w' => e = .returned (.int .i64 ((m + 3 * n : Nat) : Int)) ∧ Below w.heap.size w w' := by
  have C := hid (fun w ha => heldFileS_any ao n cap m hm hl w ha)
  have HB := hid (below_more (Below.refl w.heap.size w) (.cells #[.slice ao n cap] 26))
  have HA := hid ha
  clear ha
  obtain ⟨K, hK⟩ : ∃ K, m + 3 * n = K := ⟨_, rfl⟩
  rw [hK] at C ⊢
  clear hK
  go_enter Try.func28, Try.ntmps28
  go_wp2_with fail
  refine (C.out _ (HA.out.on HB.out)).mono ?_
  rintro e w1 ⟨rfl, b1⟩
  have B1 := hid (below_via HB.out b1)
  have hK0 : ¬ (K : Int) < 0 := by omega
  clear b1 C HB
  go_wp2
  go_ret
  exact ⟨rfl, B1.out⟩
end Go.Proofs.Ytbbohfagnnobgaa
