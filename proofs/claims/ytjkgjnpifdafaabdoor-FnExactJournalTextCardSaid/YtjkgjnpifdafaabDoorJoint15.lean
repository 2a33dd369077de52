/-
  The walk of spec.l02Four: a sum in four bytes.
-/
import Derived.Test.YtjkgjnpifdafaabDoorRows
import Derived.Test.YtjkgjnpifdafaabDoorJoint1
import Derived.WalkKit
namespace Go.Proofs.YtjkgjnpifdafaabDoor
open Go.RowKit

theorem four_text (x : Nat) (hx : x < 4294967296) (w : World) :
    (convert 72 9 (.slice (some ⟨w.heap.size, 0, none⟩) 4 4)).run Tryd.prog (w.alloc (.cells #[.int .u8 ((x : Int) / 16777216), .int .u8 ((x : Int) / 65536 % 256), .int .u8 ((x : Int) / 256 % 256), .int .u8 ((x : Int) % 256)] 5)) =
      .ok (.string ⟨(four x).toArray⟩) (w.alloc (.cells #[.int .u8 ((x : Int) / 16777216), .int .u8 ((x : Int) / 65536 % 256), .int .u8 ((x : Int) / 256 % 256), .int .u8 ((x : Int) % 256)] 5)) := by
  have := run_convert_bytes_back (P := Tryd.prog) (w.alloc (.cells #[.int .u8 ((x : Int) / 16777216), .int .u8 ((x : Int) / 65536 % 256), .int .u8 ((x : Int) / 256 % 256), .int .u8 ((x : Int) % 256)] 5)) 72 9 5 ⟨w.heap.size, 0, none⟩ 4 (four x) Tryd.underlying72 Tryd.underlying5 Tryd.underlying9
    (by
      intro j hj
      rw [show (⟨w.heap.size, 0, none⟩ : Addr).add j = ⟨w.heap.size, j, none⟩ from by simp only [Addr.add]; split <;> simp_all, World.cell?_alloc_mark]
      have e1 : (((UInt8.ofNat (x / 16777216)).toNat : Nat) : Int) = (x : Int) / 16777216 := by rw [UInt8.toNat_ofNat']; omega
      have e2 : (((UInt8.ofNat (x / 65536)).toNat : Nat) : Int) = (x : Int) / 65536 % 256 := by rw [UInt8.toNat_ofNat']; omega
      have e3 : (((UInt8.ofNat (x / 256)).toNat : Nat) : Int) = (x : Int) / 256 % 256 := by rw [UInt8.toNat_ofNat']; omega
      have e4 : (((UInt8.ofNat x).toNat : Nat) : Int) = (x : Int) % 256 := by rw [UInt8.toNat_ofNat']; omega
      rw [four_length] at hj
      match j, hj with
      | 0, _ => show some (Value.int .u8 ((x : Int) / 16777216)) = some (.int .u8 (((UInt8.ofNat (x / 16777216)).toNat : Nat) : Int)); rw [e1]
      | 1, _ => show some (Value.int .u8 ((x : Int) / 65536 % 256)) = some (.int .u8 (((UInt8.ofNat (x / 65536)).toNat : Nat) : Int)); rw [e2]
      | 2, _ => show some (Value.int .u8 ((x : Int) / 256 % 256)) = some (.int .u8 (((UInt8.ofNat (x / 256)).toNat : Nat) : Int)); rw [e3]
      | 3, _ => show some (Value.int .u8 ((x : Int) % 256)) = some (.int .u8 (((UInt8.ofNat x).toNat : Nat) : Int)); rw [e4])
  exact this

set_option maxRecDepth 1000000 in
theorem l02Four_any (x : Nat) (hx : x < 4294967296) (w : World) :
    Calls Tryd.prog 37 #[.int .u32 x] w fun e w' => e = .returned (.string ⟨(four x).toArray⟩) ∧ Below w.heap.size w w' := by
  have ht := four_text x hx w
  go_enter Tryd.func37, Tryd.ntmps37
  go_wp2
  go_ret
  exact ⟨rfl, (Below.refl _ _).alloc (Nat.le_refl _) _⟩
end Go.Proofs.YtjkgjnpifdafaabDoor
