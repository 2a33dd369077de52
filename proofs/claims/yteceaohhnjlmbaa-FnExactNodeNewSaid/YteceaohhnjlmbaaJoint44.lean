/-
  The walk of laws.heldLog: a log that holds marks is found to hold them.
-/
import Derived.Test.YteceaohhnjlmbaaJoint42
import Derived.Test.YteceaohhnjlmbaaJoint43
namespace Go.Proofs.Yteceaohhnjlmbaa
open Go.RowKit Go.Sort

set_option maxRecDepth 1000000 in
theorem heldLog_any (s t : Int) (ao : Option Addr) (n cap m : Nat) (hm : m ≤ 10000000) (hl : n ≤ 1048576) (w : World) (ha : EntsAt w ao (marksE m n)) :
    Calls Try.prog 45 #[.agg #[.int .i64 s, .int .i64 t, .slice ao n cap], .int .i64 m] w fun e w' => e = .returned (.int .i64 ((m + 3 * n : Nat) : Int)) ∧ Below w.heap.size w w' := by
  have C := hid (fun w ha => heldEntryS_any ao n cap m hm hl w ha)
  have HB := hid (below_more (Below.refl w.heap.size w) (.cells #[.int .i64 s, .int .i64 t, .slice ao n cap] 33))
  have HA := hid ha
  clear ha
  obtain ⟨K, hK⟩ : ∃ K, m + 3 * n = K := ⟨_, rfl⟩
  rw [hK] at C ⊢
  clear hK
  go_enter Try.func45, Try.ntmps45
  go_wp2_with fail
  refine (C.out _ (HA.out.on HB.out)).mono ?_
  rintro e w1 ⟨rfl, b1⟩
  have B1 := hid (below_via HB.out b1)
  have hK0 : ¬ (K : Int) < 0 := by omega
  clear b1 C HB
  go_wp2
  go_ret
  exact ⟨rfl, B1.out⟩
end Go.Proofs.Yteceaohhnjlmbaa
