/-
  The walks of spec.SumOf: what they answer.
  The walk of spec.l02Four: a sum in four bytes.
  The walk of spec.Frame: what it answers.
-/
import Derived.Test.YtbifkpkhpaellaaGreatDoorRows
import Derived.Test.YtbifkpkhpaellaaGreatDoorJoint23
import Derived.Deep.LoopGhost
import Derived.WalkKit
import Derived.Test.YtbifkpkhpaellaaGreatDoorJoint1
import Derived.Test.YtbifkpkhpaellaaGreatDoorJoint14
namespace Go.Proofs.YtbifkpkhpaellaaGreatDoor
open Go.RowKit

theorem specSumOf_any (s : ByteArray) (hs : s.size ≤ 140737488355328) (w : World) :
    Calls Tryz.prog 67 #[.string s] w fun e w' => e = .returned (.int .u32 (sumOf s.data.toList)) ∧ w' = w := by
  have C := (show Hid _ from specSumMore_any 4294967295 (by omega) s hs w)
  go_enter Tryz.func67, Tryz.ntmps67
  go_wp2_with fail
  refine Calls.mono C.out ?_
  rintro e w1 ⟨rfl, hw⟩
  rw [hw]
  go_wp2
  go_ret
  exact ⟨rfl, rfl⟩
end Go.Proofs.YtbifkpkhpaellaaGreatDoor

namespace Go.Proofs.YtbifkpkhpaellaaGreatDoor
open Go.RowKit

theorem four_text (x : Nat) (hx : x < 4294967296) (w : World) :
    (convert 100 9 (.slice (some ⟨w.heap.size, 0, none⟩) 4 4)).run Tryz.prog (w.alloc (.cells #[.int .u8 ((x : Int) / 16777216), .int .u8 ((x : Int) / 65536 % 256), .int .u8 ((x : Int) / 256 % 256), .int .u8 ((x : Int) % 256)] 5)) =
      .ok (.string ⟨(four x).toArray⟩) (w.alloc (.cells #[.int .u8 ((x : Int) / 16777216), .int .u8 ((x : Int) / 65536 % 256), .int .u8 ((x : Int) / 256 % 256), .int .u8 ((x : Int) % 256)] 5)) := by
  have := run_convert_bytes_back (P := Tryz.prog) (w.alloc (.cells #[.int .u8 ((x : Int) / 16777216), .int .u8 ((x : Int) / 65536 % 256), .int .u8 ((x : Int) / 256 % 256), .int .u8 ((x : Int) % 256)] 5)) 100 9 5 ⟨w.heap.size, 0, none⟩ 4 (four x) Tryz.underlying100 Tryz.underlying5 Tryz.underlying9
    (by
      intro j hj
      rw [show (⟨w.heap.size, 0, none⟩ : Addr).add j = ⟨w.heap.size, j, none⟩ from by simp only [Addr.add]; split <;> simp_all, World.cell?_alloc_mark]
      have e1 : (((UInt8.ofNat (x / 16777216)).toNat : Nat) : Int) = (x : Int) / 16777216 := by rw [UInt8.toNat_ofNat']; omega
      have e2 : (((UInt8.ofNat (x / 65536)).toNat : Nat) : Int) = (x : Int) / 65536 % 256 := by rw [UInt8.toNat_ofNat']; omega
      have e3 : (((UInt8.ofNat (x / 256)).toNat : Nat) : Int) = (x : Int) / 256 % 256 := by rw [UInt8.toNat_ofNat']; omega
      have e4 : (((UInt8.ofNat x).toNat : Nat) : Int) = (x : Int) % 256 := by rw [UInt8.toNat_ofNat']; omega
      rw [four_length] at hj
      match j, hj with
      | 0, _ => show some (Value.int .u8 ((x : Int) / 16777216)) = some (.int .u8 (((UInt8.ofNat (x / 16777216)).toNat : Nat) : Int)); rw [e1]
      | 1, _ => show some (Value.int .u8 ((x : Int) / 65536 % 256)) = some (.int .u8 (((UInt8.ofNat (x / 65536)).toNat : Nat) : Int)); rw [e2]
      | 2, _ => show some (Value.int .u8 ((x : Int) / 256 % 256)) = some (.int .u8 (((UInt8.ofNat (x / 256)).toNat : Nat) : Int)); rw [e3]
      | 3, _ => show some (Value.int .u8 ((x : Int) % 256)) = some (.int .u8 (((UInt8.ofNat x).toNat : Nat) : Int)); rw [e4])
  exact this

set_option maxRecDepth 1000000 in
theorem l02Four_any (x : Nat) (hx : x < 4294967296) (w : World) :
    Calls Tryz.prog 66 #[.int .u32 x] w fun e w' => e = .returned (.string ⟨(four x).toArray⟩) ∧ Below w.heap.size w w' := by
  have ht := four_text x hx w
  go_enter Tryz.func66, Tryz.ntmps66
  go_wp2
  go_ret
  exact ⟨rfl, (Below.refl _ _).alloc (Nat.le_refl _) _⟩
end Go.Proofs.YtbifkpkhpaellaaGreatDoor

namespace Go.Proofs.YtbifkpkhpaellaaGreatDoor
open Go.RowKit

theorem frameIn_yes (x : Int) (h1 : 1 ≤ x) (h2 : x ≤ 9000) (w : World) :
    Calls Tryz.prog 36 #[.int .i64 x, .int .i64 1, .int .i64 9000] w fun e w' => e = .returned (.bool true) ∧ w' = w := by
  go_enter Tryz.func36, Tryz.ntmps36
  go_wp2
  go_ret
  exact ⟨rfl, rfl⟩

theorem frameIn_no (x : Int) (h : x < 1 ∨ 9000 < x) (w : World) :
    Calls Tryz.prog 36 #[.int .i64 x, .int .i64 1, .int .i64 9000] w fun e w' => e = .returned (.bool false) ∧ w' = w := by
  by_cases h1 : x < 1
  · have h0 : ¬ 1 ≤ x := by omega
    go_enter Tryz.func36, Tryz.ntmps36
    go_wp2
    go_ret
    exact ⟨rfl, rfl⟩
  · have h0 : 1 ≤ x := by omega
    have h2 : ¬ x ≤ 9000 := by omega
    go_enter Tryz.func36, Tryz.ntmps36
    go_wp2
    go_ret
    exact ⟨rfl, rfl⟩

set_option maxRecDepth 1000000 in
set_option maxHeartbeats 1000000 in
theorem specFrame_yes (s : ByteArray) (h1 : 1 ≤ s.size) (hs : s.size ≤ 9000) (w : World) :
    Calls Tryz.prog 43 #[.string s] w fun e w' => e = .returned (.tuple #[.string (frm s), .bool true]) ∧ Below w.heap.size w w' := by
  have cI := (show Hid _ from frameIn_yes s.size (by omega) (by omega))
  have cV := (show Hid _ from l01Var_any s.size (by omega))
  have cS' := fun w => specSumOf_any s (by omega) w
  have cF' := l02Four_any (sumOf s.data.toList) (sumOf_lt _)
  have hvl := vb_le s.size
  have hfr : frm s = ⟨(vb s.size).toArray⟩ ++ ⟨(four (sumOf s.data.toList)).toArray⟩ ++ s := rfl
  rw [hfr]
  clear hfr
  obtain ⟨N, hN⟩ : ∃ N, sumOf s.data.toList = N := ⟨_, rfl⟩
  rw [hN] at cS' cF' ⊢
  have hfs : (⟨(four N).toArray⟩ : ByteArray).size = 4 := rfl
  have hvs : (⟨(vb s.size).toArray⟩ : ByteArray).size ≤ 9001 := by show (vb s.size).toArray.size ≤ 9001; simp; omega
  obtain ⟨V, hV⟩ : ∃ V : ByteArray, ⟨(vb s.size).toArray⟩ = V := ⟨_, rfl⟩
  obtain ⟨F, hF⟩ : ∃ F : ByteArray, ⟨(four N).toArray⟩ = F := ⟨_, rfl⟩
  rw [hV] at cV hvs ⊢
  rw [hF] at cF' hfs ⊢
  have cS := (show Hid _ from cS')
  have cF := (show Hid _ from cF')
  clear hN cS' cF' hV hF hvl
  go_enter Tryz.func43, Tryz.ntmps43
  go_wp2_with fail
  refine (cI.out _).mono ?_
  rintro e w0 ⟨rfl, hw⟩
  rw [hw]
  clear hw w0
  go_wp2_with fail
  refine (cV.out _).mono ?_
  rintro e w1 ⟨rfl, b1⟩
  go_wp2_with fail
  refine (cS.out _).mono ?_
  rintro e w2 ⟨rfl, hw⟩
  rw [hw]
  clear hw w2
  go_wp2_with fail
  refine (cF.out _).mono ?_
  rintro e w2 ⟨rfl, b2⟩
  have hvf : (V ++ F).size ≤ 9005 := by rw [ByteArray.size_append]; omega
  go_wp2
  go_ret2
  exact ⟨rfl, b1.trans (b2.mono b1.size)⟩

set_option maxRecDepth 1000000 in
theorem specFrame_no (s : ByteArray) (h : s.size < 1 ∨ 9000 < s.size) (w : World) :
    Calls Tryz.prog 43 #[.string s] w fun e w' => e = .returned (.tuple #[.string ByteArray.empty, .bool false]) ∧ Below w.heap.size w w' := by
  have cI := (show Hid _ from frameIn_no s.size (by omega))
  go_enter Tryz.func43, Tryz.ntmps43
  go_wp2_with fail
  refine (cI.out _).mono ?_
  rintro e w0 ⟨rfl, hw⟩
  rw [hw]
  clear hw w0
  go_wp2
  go_ret2
  exact ⟨rfl, Below.refl _ _⟩
end Go.Proofs.YtbifkpkhpaellaaGreatDoor
