/-
  The walk of spec.l01Pick: one of the texts of a list.
-/
import Derived.Test.YtihgkocfgjihhaaDoorJoint2
namespace Go.Proofs.YtihgkocfgjihhaaDoor
open Go.RowKit

/-- a list of texts in a block of its own -/
def Strs (w : World) (g : Nat) (zs : List ByteArray) : Prop := ∀ j (hj : j < zs.length), w.cell? ⟨g, j, none⟩ = some (.string zs[j])

set_option maxRecDepth 1000000 in
set_option maxHeartbeats 1000000 in
theorem l01Pick_any (C g : Nat) (zs : List ByteArray) (cap : Nat) (hl : 0 < zs.length) (hl2 : zs.length ≤ 1000000) (hg : C < g) (w : World) (hc : CurAt w C) (hz : Strs w g zs) :
    Calls Tryd.prog 45 #[.pointer (some ⟨C, 0, none⟩), .slice (some ⟨g, 0, none⟩) zs.length cap] w fun e w' => ∃ (j : Nat) (hj : j < zs.length), e = .returned (.string zs[j]) ∧ CurAt w' C ∧ w.grownBy w' (some C) := by
  have HC := (show Hid (CurAt w C) from hc)
  have HZ := (show Hid (Strs w g zs) from hz)
  clear hc hz
  go_enter Tryd.func45, Tryd.ntmps45
  go_wp2_with fail
  refine (l01Below_any C (zs.length : Int) (by omega) (by omega) _ HC.out).mono ?_
  rintro e w1 ⟨x, rfl, x0, x1, k1, q1⟩
  obtain ⟨j, rfl⟩ : ∃ j : Nat, x = j := ⟨x.toNat, by omega⟩
  have hj : j < zs.length := by omega
  have cz : w1.cell? ⟨g, j, none⟩ = some (.string zs[j]) := q1.cell (HZ.out j hj) (by simp; omega)
  have K1 := (show Hid (CurAt w1 C) from k1)
  have Q1 := (show Hid _ from q1)
  clear k1 q1
  go_wp2
  go_ret
  exact ⟨j, hj, rfl, K1.out, Q1.out⟩
end Go.Proofs.YtihgkocfgjihhaaDoor
