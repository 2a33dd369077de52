/-
  The walk of laws.heldStringS: a row that holds marks is found to hold them.
-/
import Derived.Test.YtpknpodmoeaggabTextMark
import Derived.Lib.QuietBelow
namespace Go.Proofs.Ytpknpodmoeaggab
open Go.RowKit Go.Sort

set_option maxRecDepth 1000000 in
set_option maxHeartbeats 1000000 in
theorem heldStringS_vals (ao : Option Addr) (n cap m : Nat) (hm : m ≤ 10000000) (hl : n ≤ 1048576) (w : World) (ha : ValsAt w ao (st (tmarks m n))) :
    Calls Try.prog 45 #[.slice ao n cap, .int .i64 m] w fun e w' => e = .returned (.int .i64 ((m + n : Nat) : Int)) ∧ Below w.heap.size w w' := by
  have HA := hid ha
  clear ha
  go_enter Try.func45, Try.ntmps45
  go_wp2
  go_loopg [1, 5] n (fun q y i wr => ∃ (k : Nat), k + q = n ∧ i = .int .i64 k ∧ y = .int .i64 ((m + k : Nat) : Int) ∧ Hid (Below w.heap.size w wr))
  case atStart => exact ⟨0, by omega, rfl, rfl, (show Below _ _ _ from Below.refl _ _)⟩
  case round =>
    obtain ⟨k, hkg, rfl, rfl, BR⟩ := hrel
    cases gk with
    | zero =>
      have hlt : ¬ (k : Int) < (n : Int) := by omega
      obtain rfl : k = n := by omega
      go_wp2
      go_ret
      exact ⟨rfl, BR.out⟩
    | succ q =>
      have hlt : k < n := by omega
      have hlt' : (k : Int) < (n : Int) := by omega
      have hlen : (st (tmarks m n)).length = n := by rw [st_length, tmarks_length]
      obtain ⟨b, off, rfl, hc⟩ := HA.out.on BR.out (by intro e; rw [e] at hlen; simp at hlen; omega)
      have x0 := hc k (by omega)
      have hgt : (st (tmarks m n))[k]'(by omega) = .string (mtx (m + k)) := by simp [st, tmarks]
      rw [hgt] at x0
      clear hc hgt hlen
      obtain ⟨K, hK⟩ : ∃ K, m + k = K := ⟨_, rfl⟩
      have hKl : K ≤ 20000000 := by omega
      have HK := hid hK
      rw [hK] at x0 ⊢
      clear hK
      go_wp2
      have X0 := cell_regrown x0
      have C0 := hid (fun d os => Calls.regrown_of (w := wr) (d := d) (os := os) (markText_any K (by omega) _))
      clear x0
      refine wp_region_quiet_below (by kernel_rfl) (by kernel_rfl) ?_
      repeat (first | go_big_quiet_step (first | (go_at_call 32; exact C0.out _ _) | fail) | quiet_step (first | (go_at_call 32; exact C0.out _ _) | fail))
      refine wpQuiet_nil ?_
      intro _ hw'
      obtain ⟨⟨dq, osq⟩, hw''⟩ := hw'
      subst hw''
      have B0 := hid (below_via BR.out (below_regrown wr dq osq))
      generalize grow (redrawn wr dq) osq = w0 at B0 ⊢
      clear X0 C0
      go_wp2
      go_roundg q
      case measure => omega
      case rel => exact ⟨k + 1, by omega, by go_num, by rw [← show K + 1 = m + (k + 1) by have := HK.out; omega]; go_num, B0⟩
end Go.Proofs.Ytpknpodmoeaggab
