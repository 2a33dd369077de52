/-
  The walks of spec.SumOf: what they answer.
  The walk of spec.l02Four: a sum in four bytes.
  The walk of spec.Sealed: what it answers.
-/
import Derived.Test.YtoanhjjigbjecaaGreatDoorRows
import Derived.Test.YtoanhjjigbjecaaGreatDoorJoint19
import Derived.Deep.LoopGhost
import Derived.WalkKit
import Derived.Test.YtoanhjjigbjecaaGreatDoorJoint1
namespace Go.Proofs.YtoanhjjigbjecaaGreatDoor
open Go.RowKit

theorem specSumOf_any (s : ByteArray) (hs : s.size ≤ 140737488355328) (w : World) :
    Calls Tryz.prog 90 #[.string s] w fun e w' => e = .returned (.int .u32 (sumOf s.data.toList)) ∧ w' = w := by
  have C := (show Hid _ from specSumMore_any 4294967295 (by omega) s hs w)
  go_enter Tryz.func90, Tryz.ntmps90
  go_wp2_with fail
  refine Calls.mono C.out ?_
  rintro e w1 ⟨rfl, hw⟩
  rw [hw]
  go_wp2
  go_ret
  exact ⟨rfl, rfl⟩
end Go.Proofs.YtoanhjjigbjecaaGreatDoor

namespace Go.Proofs.YtoanhjjigbjecaaGreatDoor
open Go.RowKit

theorem four_text (x : Nat) (hx : x < 4294967296) (w : World) :
    (convert 22 9 (.slice (some ⟨w.heap.size, 0, none⟩) 4 4)).run Tryz.prog (w.alloc (.cells #[.int .u8 ((x : Int) / 16777216), .int .u8 ((x : Int) / 65536 % 256), .int .u8 ((x : Int) / 256 % 256), .int .u8 ((x : Int) % 256)] 5)) =
      .ok (.string ⟨(four x).toArray⟩) (w.alloc (.cells #[.int .u8 ((x : Int) / 16777216), .int .u8 ((x : Int) / 65536 % 256), .int .u8 ((x : Int) / 256 % 256), .int .u8 ((x : Int) % 256)] 5)) := by
  have := run_convert_bytes_back (P := Tryz.prog) (w.alloc (.cells #[.int .u8 ((x : Int) / 16777216), .int .u8 ((x : Int) / 65536 % 256), .int .u8 ((x : Int) / 256 % 256), .int .u8 ((x : Int) % 256)] 5)) 22 9 5 ⟨w.heap.size, 0, none⟩ 4 (four x) Tryz.underlying22 Tryz.underlying5 Tryz.underlying9
    (by
      intro j hj
      rw [show (⟨w.heap.size, 0, none⟩ : Addr).add j = ⟨w.heap.size, j, none⟩ from by simp only [Addr.add]; split <;> simp_all, World.cell?_alloc_mark]
      have e1 : (((UInt8.ofNat (x / 16777216)).toNat : Nat) : Int) = (x : Int) / 16777216 := by rw [UInt8.toNat_ofNat']; omega
      have e2 : (((UInt8.ofNat (x / 65536)).toNat : Nat) : Int) = (x : Int) / 65536 % 256 := by rw [UInt8.toNat_ofNat']; omega
      have e3 : (((UInt8.ofNat (x / 256)).toNat : Nat) : Int) = (x : Int) / 256 % 256 := by rw [UInt8.toNat_ofNat']; omega
      have e4 : (((UInt8.ofNat x).toNat : Nat) : Int) = (x : Int) % 256 := by rw [UInt8.toNat_ofNat']; omega
      rw [four_length] at hj
      match j, hj with
      | 0, _ => show some (Value.int .u8 ((x : Int) / 16777216)) = some (.int .u8 (((UInt8.ofNat (x / 16777216)).toNat : Nat) : Int)); rw [e1]
      | 1, _ => show some (Value.int .u8 ((x : Int) / 65536 % 256)) = some (.int .u8 (((UInt8.ofNat (x / 65536)).toNat : Nat) : Int)); rw [e2]
      | 2, _ => show some (Value.int .u8 ((x : Int) / 256 % 256)) = some (.int .u8 (((UInt8.ofNat (x / 256)).toNat : Nat) : Int)); rw [e3]
      | 3, _ => show some (Value.int .u8 ((x : Int) % 256)) = some (.int .u8 (((UInt8.ofNat x).toNat : Nat) : Int)); rw [e4])
  exact this

set_option maxRecDepth 1000000 in
theorem l02Four_any (x : Nat) (hx : x < 4294967296) (w : World) :
    Calls Tryz.prog 89 #[.int .u32 x] w fun e w' => e = .returned (.string ⟨(four x).toArray⟩) ∧ Below w.heap.size w w' := by
  have ht := four_text x hx w
  go_enter Tryz.func89, Tryz.ntmps89
  go_wp2
  go_ret
  exact ⟨rfl, (Below.refl _ _).alloc (Nat.le_refl _) _⟩
end Go.Proofs.YtoanhjjigbjecaaGreatDoor

namespace Go.Proofs.YtoanhjjigbjecaaGreatDoor
open Go.RowKit

set_option maxRecDepth 1000000 in
theorem specSealed_yes (s : ByteArray) (hs : s.size ≤ 20000) (w : World) :
    Calls Tryz.prog 58 #[.string s] w fun e w' => e = .returned (.tuple #[.string (s ++ ⟨(four (sumOf s.data.toList)).toArray⟩), .bool true]) ∧ Below w.heap.size w w' := by
  have cS' := specSumOf_any s (by omega)
  have cF' := l02Four_any (sumOf s.data.toList) (sumOf_lt _)
  obtain ⟨N, hN⟩ : ∃ N, sumOf s.data.toList = N := ⟨_, rfl⟩
  rw [hN] at cS' cF' ⊢
  have hf := four_length N
  have cS := (show Hid _ from cS')
  have cF := (show Hid _ from cF')
  clear hN cS' cF'
  go_enter Tryz.func58, Tryz.ntmps58
  go_wp2_with fail
  refine (cS.out _).mono ?_
  rintro e w1 ⟨rfl, hw⟩
  rw [hw]
  clear hw w1
  go_wp2_with fail
  refine (cF.out _).mono ?_
  rintro e w2 ⟨rfl, hb⟩
  go_wp2
  go_ret2
  exact ⟨rfl, hb⟩

theorem specSealed_no (s : ByteArray) (hs : 20000 < s.size) (w : World) :
    Calls Tryz.prog 58 #[.string s] w fun e w' => e = .returned (.tuple #[.string ByteArray.empty, .bool false]) ∧ Below w.heap.size w w' := by
  go_enter Tryz.func58, Tryz.ntmps58
  go_wp2
  go_ret2
  exact ⟨rfl, Below.refl _ _⟩
end Go.Proofs.YtoanhjjigbjecaaGreatDoor
