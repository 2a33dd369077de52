/-
  The walk of spec.l02Four: a sum in four bytes.
  The walk of impl's bytes of a check sum: a sum in four bytes.
-/
import Derived.Test.YtihgkocfgjihhaaGreatDoorRows
import Derived.Test.YtihgkocfgjihhaaGreatDoorJoint1
import Derived.WalkKit
namespace Go.Proofs.YtihgkocfgjihhaaGreatDoor
open Go.RowKit

theorem four_text (x : Nat) (hx : x < 4294967296) (w : World) :
    (convert 112 9 (.slice (some ⟨w.heap.size, 0, none⟩) 4 4)).run Tryz.prog (w.alloc (.cells #[.int .u8 ((x : Int) / 16777216), .int .u8 ((x : Int) / 65536 % 256), .int .u8 ((x : Int) / 256 % 256), .int .u8 ((x : Int) % 256)] 5)) =
      .ok (.string ⟨(four x).toArray⟩) (w.alloc (.cells #[.int .u8 ((x : Int) / 16777216), .int .u8 ((x : Int) / 65536 % 256), .int .u8 ((x : Int) / 256 % 256), .int .u8 ((x : Int) % 256)] 5)) := by
  have := run_convert_bytes_back (P := Tryz.prog) (w.alloc (.cells #[.int .u8 ((x : Int) / 16777216), .int .u8 ((x : Int) / 65536 % 256), .int .u8 ((x : Int) / 256 % 256), .int .u8 ((x : Int) % 256)] 5)) 112 9 5 ⟨w.heap.size, 0, none⟩ 4 (four x) Tryz.underlying112 Tryz.underlying5 Tryz.underlying9
    (by
      intro j hj
      rw [show (⟨w.heap.size, 0, none⟩ : Addr).add j = ⟨w.heap.size, j, none⟩ from by simp only [Addr.add]; split <;> simp_all, World.cell?_alloc_mark]
      have e1 : (((UInt8.ofNat (x / 16777216)).toNat : Nat) : Int) = (x : Int) / 16777216 := by rw [UInt8.toNat_ofNat']; omega
      have e2 : (((UInt8.ofNat (x / 65536)).toNat : Nat) : Int) = (x : Int) / 65536 % 256 := by rw [UInt8.toNat_ofNat']; omega
      have e3 : (((UInt8.ofNat (x / 256)).toNat : Nat) : Int) = (x : Int) / 256 % 256 := by rw [UInt8.toNat_ofNat']; omega
      have e4 : (((UInt8.ofNat x).toNat : Nat) : Int) = (x : Int) % 256 := by rw [UInt8.toNat_ofNat']; omega
      rw [four_length] at hj
      match j, hj with
      | 0, _ => show some (Value.int .u8 ((x : Int) / 16777216)) = some (.int .u8 (((UInt8.ofNat (x / 16777216)).toNat : Nat) : Int)); rw [e1]
      | 1, _ => show some (Value.int .u8 ((x : Int) / 65536 % 256)) = some (.int .u8 (((UInt8.ofNat (x / 65536)).toNat : Nat) : Int)); rw [e2]
      | 2, _ => show some (Value.int .u8 ((x : Int) / 256 % 256)) = some (.int .u8 (((UInt8.ofNat (x / 256)).toNat : Nat) : Int)); rw [e3]
      | 3, _ => show some (Value.int .u8 ((x : Int) % 256)) = some (.int .u8 (((UInt8.ofNat x).toNat : Nat) : Int)); rw [e4])
  exact this

set_option maxRecDepth 1000000 in
theorem l02Four_any (x : Nat) (hx : x < 4294967296) (w : World) :
    Calls Tryz.prog 110 #[.int .u32 x] w fun e w' => e = .returned (.string ⟨(four x).toArray⟩) ∧ Below w.heap.size w w' := by
  have ht := four_text x hx w
  go_enter Tryz.func110, Tryz.ntmps110
  go_wp2
  go_ret
  exact ⟨rfl, (Below.refl _ _).alloc (Nat.le_refl _) _⟩
end Go.Proofs.YtihgkocfgjihhaaGreatDoor

namespace Go.Proofs.YtihgkocfgjihhaaGreatDoor
open Go.RowKit

set_option maxRecDepth 1000000 in
theorem sumBytes_any (x : Nat) (hx : x < 4294967296) (w : World) :
    Calls Tryz.prog 124 #[.int .u32 x] w fun e w' => e = .returned (.string ⟨(four x).toArray⟩) ∧ Below w.heap.size w w' := by
  have ht := four_text x hx w
  go_enter Tryz.func124, Tryz.ntmps124
  go_wp2
  go_ret
  exact ⟨rfl, (Below.refl _ _).alloc (Nat.le_refl _) _⟩
end Go.Proofs.YtihgkocfgjihhaaGreatDoor
