/-
  The walk of laws.sameInts: two lists of the same numbers.
-/
import Derived.Test.YtmecfpafpnoenaaRows
import Derived.Test.YtmecfpafpnoenaaJoint1
import Derived.BigQuiet
import Derived.Deep.QuietTactic
import Derived.Deep.LoopGhost
import Derived.WalkSmall
import Derived.WalkKit
namespace Go.Proofs.Ytmecfpafpnoenaa
open Go.RowKit

set_option maxRecDepth 1000000 in
set_option maxHeartbeats 1000000 in
theorem sameInts_same (ao bo : Option Addr) (zs : List Int) (c c' : Nat) (hl : zs.length ≤ 1048576) (w : World) (ha : IntsAt w ao zs) (hb : IntsAt w bo zs) :
    Calls Try.prog 22 #[.slice ao zs.length c, .slice bo zs.length c'] w fun e w' => e = .returned (.bool true) ∧ Below w.heap.size w w' := by
  have HA := hid ha
  have HB := hid hb
  clear ha hb
  go_enter Try.func22, Try.ntmps22
  go_wp2
  go_loopg [5] zs.length (fun g i wr => ∃ (k : Nat), k + g = zs.length ∧ i = .int .i64 k ∧ Hid (Below w.heap.size w wr))
  case atStart => exact ⟨0, by omega, rfl, (show Below _ _ _ from Below.refl _ _)⟩
  case round =>
    obtain ⟨k, hkg, rfl, BR⟩ := hrel
    cases gk with
    | zero =>
      have hlt : ¬ (k : Int) < (zs.length : Int) := by omega
      go_wp2
      go_ret
      exact ⟨rfl, BR.out⟩
    | succ g =>
      have hlt : k < zs.length := by omega
      have hlt' : (k : Int) < (zs.length : Int) := by omega
      have hne : zs ≠ [] := by intro e; rw [e] at hlt; simp at hlt
      obtain ⟨b, off, rfl, hc⟩ := HA.out.on BR.out hne
      obtain ⟨b', off', rfl, hc'⟩ := HB.out.on BR.out hne
      have x0 := hc k hlt
      have y0 := hc' k hlt
      clear hc hc'
      go_wp2
      go_quiet (fail)
      have BQ := hid (below_drewN BR.out nq)
      generalize wr.drewN nq = wq at BQ ⊢
      clear x0 y0
      go_wp2
      go_roundg g
      case measure => omega
      case rel => exact ⟨k + 1, by omega, by go_num, BQ⟩
end Go.Proofs.Ytmecfpafpnoenaa
