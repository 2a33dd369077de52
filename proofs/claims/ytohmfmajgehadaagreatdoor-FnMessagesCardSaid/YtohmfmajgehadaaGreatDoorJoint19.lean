/-
  The walk of spec.l01New: a cursor over the bytes that came in.
  A slice of bytes that is read stays readable; laws.big of a slice that is not too long.
-/
import Derived.Test.YtohmfmajgehadaaGreatDoorJoint2
namespace Go.Proofs.YtohmfmajgehadaaGreatDoor
open Go.RowKit

/-- a slice of bytes that can be read -/
def Bytes (w : World) (ao : Option Addr) (len : Nat) : Prop := 0 < len → ∃ b off, ao = some ⟨b, off, none⟩ ∧ ∀ j, j < len → ∃ z : Int, 0 ≤ z ∧ z ≤ 255 ∧ w.cell? ⟨b, off + j, none⟩ = some (.int .u8 z)

theorem cur_made {w : World} {ao : Option Addr} {len cap : Nat} (hr : Bytes w ao len) (hlen : len ≤ 1048576) (hcap : len ≤ cap) (h : Int) (t : TypeId) : CurAt (w.alloc (.cells #[.slice ao len cap, .int .i64 0, .int .i64 h] t)) w.heap.size := by
  refine ⟨ao, len, cap, 0, h, t, heap_alloc_new w _, Nat.zero_le _, hlen, hcap, fun h0 => ?_⟩
  obtain ⟨b, off, e1, e2⟩ := hr h0
  obtain ⟨z, _, _, hz⟩ := e2 0 h0
  have hb := World.block_lt_of_cell? w _ hz
  refine ⟨b, off, e1, hb, fun j hj => ?_⟩
  obtain ⟨z, z0, z1, hz⟩ := e2 j hj
  exact ⟨z, z0, z1, by rw [World.cell?_alloc_past _ _ _ hb]; exact hz⟩

set_option maxRecDepth 1000000 in
set_option maxHeartbeats 1000000 in
theorem l01New_any (ao : Option Addr) (len cap : Nat) (hlen : len ≤ 1048576) (hcap : len ≤ cap) (w : World) (hr : Bytes w ao len) :
    Calls Tryz.prog 20 #[.slice ao len cap] w fun e w' => e = .returned (.pointer (some ⟨w.heap.size, 0, none⟩)) ∧ CurAt w' w.heap.size ∧ Below w.heap.size w w' := by
  have HR := (show Hid (Bytes w ao len) from hr)
  clear hr
  go_enter Tryz.func20, Tryz.ntmps20
  go_wp2
  go_loop [3, 4] (fun x i => ∃ (k : Nat) (h : Int), k ≤ len ∧ k ≤ 4000 ∧ i = .int .i64 k ∧ x = .int .i64 h) (fun _ i => len - (intOf i).toNat)
  case atStart => exact ⟨0, _, Nat.zero_le _, Nat.zero_le _, rfl, rfl⟩
  case round =>
    obtain ⟨k, h, hk, hk4, rfl, rfl⟩ := hrel
    by_cases hlt : k < len
    · by_cases h4 : k < 4000
      · obtain ⟨b, off, rfl, hc⟩ := HR.out (by omega)
        obtain ⟨z, z0, z1, cz⟩ := hc k hlt
        clear hc
        have k1 : (k : Int) < (len : Int) := by omega
        go_wp2
        go_round
        case rel => exact ⟨k + 1, _, by omega, by omega, by go_num, rfl⟩
        case measure => simp [intOf]; omega
      · go_wp2
        go_ret
        exact ⟨rfl, cur_made HR.out hlen hcap h _, (Below.refl _ _).alloc (Nat.le_refl _) _⟩
    · go_wp2
      go_ret
      exact ⟨rfl, cur_made HR.out hlen hcap h _, (Below.refl _ _).alloc (Nat.le_refl _) _⟩

theorem below_cur {w w1 w2 : World} (b : Below w.heap.size w w1) (q : w1.grownBy w2 (some w.heap.size)) : Below w.heap.size w w2 :=
  b.grown q b.size (fun k h => by simp at h; omega)
end Go.Proofs.YtohmfmajgehadaaGreatDoor

namespace Go.Proofs.YtohmfmajgehadaaGreatDoor
open Go.RowKit

theorem bytes_on {w w' : World} {ao : Option Addr} {len : Nat} (h : Bytes w ao len) (hb : Below w.heap.size w w') : Bytes w' ao len := by
  intro h0
  obtain ⟨b, off, e1, e2⟩ := h h0
  refine ⟨b, off, e1, fun j hj => ?_⟩
  obtain ⟨z, z0, z1, hz⟩ := e2 j hj
  exact ⟨z, z0, z1, (hb.cell (p := ⟨b, off + j, none⟩) (World.block_lt_of_cell? w _ hz)).trans hz⟩

theorem big_no (ao : Option Addr) (len cap : Nat) (hlen : len ≤ 1048576) (w : World) : Calls Tryz.prog 5 #[.slice ao len cap] w fun e w' => e = .returned (.bool false) ∧ w' = w := by
  have h : ¬ (1048576 : Int) < (len : Int) := by omega
  go_enter Tryz.func5, Tryz.ntmps5
  go_wp2
  go_ret
  exact ⟨by simp, rfl⟩
end Go.Proofs.YtohmfmajgehadaaGreatDoor
