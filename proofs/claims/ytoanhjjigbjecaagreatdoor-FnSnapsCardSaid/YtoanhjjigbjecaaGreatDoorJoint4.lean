/-
  The walk of spec.l01PickInt: one of the numbers of a list.
  The walk of spec.l01Once: one way or the other.
-/
import Derived.Test.YtoanhjjigbjecaaGreatDoorJoint2
namespace Go.Proofs.YtoanhjjigbjecaaGreatDoor
open Go.RowKit

/-- a list of numbers in a block of its own -/
def Ints (w : World) (g : Nat) (zs : List Int) : Prop := ∀ j (hj : j < zs.length), w.cell? ⟨g, j, none⟩ = some (.int .i64 zs[j])

set_option maxRecDepth 1000000 in
set_option maxHeartbeats 1000000 in
theorem l01PickInt_any (C g : Nat) (zs : List Int) (cap : Nat) (hl : 0 < zs.length) (hl2 : zs.length ≤ 1000000) (hg : C < g) (w : World) (hc : CurAt w C) (hz : Ints w g zs) :
    Calls Tryz.prog 105 #[.pointer (some ⟨C, 0, none⟩), .slice (some ⟨g, 0, none⟩) zs.length cap] w fun e w' => ∃ (j : Nat) (hj : j < zs.length), e = .returned (.int .i64 zs[j]) ∧ CurAt w' C ∧ w.grownBy w' (some C) := by
  have HC := (show Hid (CurAt w C) from hc)
  have HZ := (show Hid (Ints w g zs) from hz)
  clear hc hz
  go_enter Tryz.func105, Tryz.ntmps105
  go_wp2_with fail
  refine (l01Below_any C (zs.length : Int) (by omega) (by omega) _ HC.out).mono ?_
  rintro e w1 ⟨x, rfl, x0, x1, k1, q1⟩
  obtain ⟨j, rfl⟩ : ∃ j : Nat, x = j := ⟨x.toNat, by omega⟩
  have hj : j < zs.length := by omega
  have cz : w1.cell? ⟨g, j, none⟩ = some (.int .i64 zs[j]) := q1.cell (HZ.out j hj) (by simp; omega)
  have K1 := (show Hid (CurAt w1 C) from k1)
  have Q1 := (show Hid _ from q1)
  clear k1 q1
  go_wp2
  go_ret
  exact ⟨j, hj, rfl, K1.out, Q1.out⟩
end Go.Proofs.YtoanhjjigbjecaaGreatDoor

namespace Go.Proofs.YtoanhjjigbjecaaGreatDoor
open Go.RowKit

theorem l01Once_any (C : Nat) (n : Int) (hn : 0 < n) (hn2 : n ≤ 1000000000000) (w : World) (hc : CurAt w C) :
    Calls Tryz.prog 55 #[.pointer (some ⟨C, 0, none⟩), .int .i64 n] w fun e w' => ∃ b : Bool, e = .returned (.bool b) ∧ CurAt w' C ∧ w.grownBy w' (some C) := by
  have HC := (show Hid (CurAt w C) from hc)
  clear hc
  go_enter Tryz.func55, Tryz.ntmps55
  go_wp2_with (go_at_call 20; refine (l01Below_any C n hn hn2 _ HC.out).mono ?_; rintro e w1 ⟨x, rfl, x0, x1, k1, q1⟩; have K1 := (show Hid (CurAt w1 C) from k1); have Q1 := (show Hid _ from q1); clear k1 q1)
  go_ret
  exact ⟨_, rfl, K1.out, Q1.out⟩
end Go.Proofs.YtoanhjjigbjecaaGreatDoor
