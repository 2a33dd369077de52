/-
  A slice of bytes that is read stays readable; laws.big of a slice that is not too long.
-/
import Derived.Test.YtjkgjnpifdafaaaJoint35
namespace Go.Proofs.Ytjkgjnpifdafaaa
open Go.RowKit

theorem bytes_on {w w' : World} {ao : Option Addr} {len : Nat} (h : Bytes w ao len) (hb : Below w.heap.size w w') : Bytes w' ao len := by
  intro h0
  obtain ⟨b, off, e1, e2⟩ := h h0
  refine ⟨b, off, e1, fun j hj => ?_⟩
  obtain ⟨z, z0, z1, hz⟩ := e2 j hj
  exact ⟨z, z0, z1, (hb.cell (p := ⟨b, off + j, none⟩) (World.block_lt_of_cell? w _ hz)).trans hz⟩

theorem big_no (ao : Option Addr) (len cap : Nat) (hlen : len ≤ 1048576) (w : World) : Calls Try.prog 22 #[.slice ao len cap] w fun e w' => e = .returned (.bool false) ∧ w' = w := by
  have h : ¬ (1048576 : Int) < (len : Int) := by omega
  go_enter Try.func22, Try.ntmps22
  go_wp2
  go_ret
  exact ⟨by simp, rfl⟩
end Go.Proofs.Ytjkgjnpifdafaaa
