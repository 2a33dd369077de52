/-
  The walk of laws.heldKnownS: a row that holds marks is found to hold them.
-/
import Derived.Test.YtneociicjidcnaaMarkKnown
import Derived.Lib.QuietBelow
namespace Go.Proofs.Ytneociicjidcnaa
open Go.RowKit Go.Sort

set_option maxRecDepth 1000000 in
set_option maxHeartbeats 1000000 in
theorem heldKnownS_any (ao : Option Addr) (n cap m : Nat) (hm : m ≤ 10000000) (hl : n ≤ 1048576) (w : World) (ha : KnownsAt w ao (marksKnown m n)) :
    Calls Try.prog 19 #[.slice ao n cap, .int .i64 m] w fun e w' => e = .returned (.int .i64 ((m + 2 * n : Nat) : Int)) ∧ Below w.heap.size w w' := by
  have HA := hid ha
  clear ha
  go_enter Try.func19, Try.ntmps19
  go_wp2
  go_loopg [1, 5] n (fun q y i wr => ∃ (k : Nat), k + q = n ∧ i = .int .i64 k ∧ y = .int .i64 ((m + 2 * k : Nat) : Int) ∧ Hid (Below w.heap.size w wr))
  case atStart => exact ⟨0, by omega, rfl, rfl, (show Below _ _ _ from Below.refl _ _)⟩
  case round =>
    obtain ⟨k, hkg, rfl, rfl, BR⟩ := hrel
    cases gk with
    | zero =>
      have hlt : ¬ (k : Int) < (n : Int) := by omega
      obtain rfl : k = n := by omega
      go_wp2
      go_ret
      exact ⟨rfl, BR.out⟩
    | succ q =>
      have hlt : k < n := by omega
      have hlt' : (k : Int) < (n : Int) := by omega
      have hkm : k < (marksKnown m n).length := by rw [marksKnown_length]; exact hlt
      have hne : marksKnown m n ≠ [] := by intro e; rw [e] at hkm; simp at hkm
      have hmk : (marksKnown m n)[k] = markKnownD m k := by simp [marksKnown]
      obtain ⟨b, off, rfl, hc⟩ := HA.out.on BR.out hne
      obtain ⟨x0, x1⟩ := hc k hkm
      rw [hmk] at x0 x1
      simp only [markKnownD] at x0 x1
      clear hmk hne hkm hc
      obtain ⟨K, hK⟩ : ∃ K, m + 2 * k = K := ⟨_, rfl⟩
      have hKl : K ≤ 20000000 := by omega
      rw [hK] at x0 x1 ⊢
      rw [show ((K + 1 : Nat) : Int) = (K : Int) + 1 by omega] at x1
      have BL := BR
      go_wp2
      go_roundg q
      case measure => omega
      case rel => exact ⟨k + 1, by omega, by go_num, by rw [← show K + 2 = m + 2 * (k + 1) by omega]; go_num, BL⟩
end Go.Proofs.Ytneociicjidcnaa
