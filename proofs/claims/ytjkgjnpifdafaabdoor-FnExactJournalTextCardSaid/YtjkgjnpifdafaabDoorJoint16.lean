/-
  The walk of spec.Frame: what it answers.
-/
import Derived.Test.YtjkgjnpifdafaabDoorJoint12
import Derived.Test.YtjkgjnpifdafaabDoorJoint14
import Derived.Test.YtjkgjnpifdafaabDoorJoint15
import Derived.Test.YtjkgjnpifdafaabDoorJoint1
namespace Go.Proofs.YtjkgjnpifdafaabDoor
open Go.RowKit

theorem frameIn_yes (x : Int) (h1 : 1 ≤ x) (h2 : x ≤ 9000) (w : World) :
    Calls Tryd.prog 28 #[.int .i64 x, .int .i64 1, .int .i64 9000] w fun e w' => e = .returned (.bool true) ∧ w' = w := by
  go_enter Tryd.func28, Tryd.ntmps28
  go_wp2
  go_ret
  exact ⟨rfl, rfl⟩

theorem frameIn_no (x : Int) (h : x < 1 ∨ 9000 < x) (w : World) :
    Calls Tryd.prog 28 #[.int .i64 x, .int .i64 1, .int .i64 9000] w fun e w' => e = .returned (.bool false) ∧ w' = w := by
  by_cases h1 : x < 1
  · have h0 : ¬ 1 ≤ x := by omega
    go_enter Tryd.func28, Tryd.ntmps28
    go_wp2
    go_ret
    exact ⟨rfl, rfl⟩
  · have h0 : 1 ≤ x := by omega
    have h2 : ¬ x ≤ 9000 := by omega
    go_enter Tryd.func28, Tryd.ntmps28
    go_wp2
    go_ret
    exact ⟨rfl, rfl⟩

set_option maxRecDepth 1000000 in
set_option maxHeartbeats 1000000 in
theorem specFrame_yes (s : ByteArray) (h1 : 1 ≤ s.size) (hs : s.size ≤ 9000) (w : World) :
    Calls Tryd.prog 16 #[.string s] w fun e w' => e = .returned (.tuple #[.string (frm s), .bool true]) ∧ Below w.heap.size w w' := by
  have cI := (show Hid _ from frameIn_yes s.size (by omega) (by omega))
  have cV := (show Hid _ from l01Var_any s.size (by omega))
  have cS' := fun w => specSumOf_any s (by omega) w
  have cF' := l02Four_any (sumOf s.data.toList) (sumOf_lt _)
  have hvl := vb_le s.size
  have hfr : frm s = ⟨(vb s.size).toArray⟩ ++ ⟨(four (sumOf s.data.toList)).toArray⟩ ++ s := rfl
  rw [hfr]
  clear hfr
  obtain ⟨N, hN⟩ : ∃ N, sumOf s.data.toList = N := ⟨_, rfl⟩
  rw [hN] at cS' cF' ⊢
  have hfs : (⟨(four N).toArray⟩ : ByteArray).size = 4 := rfl
  have hvs : (⟨(vb s.size).toArray⟩ : ByteArray).size ≤ 9001 := by show (vb s.size).toArray.size ≤ 9001; simp; omega
  obtain ⟨V, hV⟩ : ∃ V : ByteArray, ⟨(vb s.size).toArray⟩ = V := ⟨_, rfl⟩
  obtain ⟨F, hF⟩ : ∃ F : ByteArray, ⟨(four N).toArray⟩ = F := ⟨_, rfl⟩
  rw [hV] at cV hvs ⊢
  rw [hF] at cF' hfs ⊢
  have cS := (show Hid _ from cS')
  have cF := (show Hid _ from cF')
  clear hN cS' cF' hV hF hvl
  go_enter Tryd.func16, Tryd.ntmps16
  go_wp2_with fail
  refine (cI.out _).mono ?_
  rintro e w0 ⟨rfl, hw⟩
  rw [hw]
  clear hw w0
  go_wp2_with fail
  refine (cV.out _).mono ?_
  rintro e w1 ⟨rfl, b1⟩
  go_wp2_with fail
  refine (cS.out _).mono ?_
  rintro e w2 ⟨rfl, hw⟩
  rw [hw]
  clear hw w2
  go_wp2_with fail
  refine (cF.out _).mono ?_
  rintro e w2 ⟨rfl, b2⟩
  have hvf : (V ++ F).size ≤ 9005 := by rw [ByteArray.size_append]; omega
  go_wp2
  go_ret2
  exact ⟨rfl, b1.trans (b2.mono b1.size)⟩

set_option maxRecDepth 1000000 in
theorem specFrame_no (s : ByteArray) (h : s.size < 1 ∨ 9000 < s.size) (w : World) :
    Calls Tryd.prog 16 #[.string s] w fun e w' => e = .returned (.tuple #[.string ByteArray.empty, .bool false]) ∧ Below w.heap.size w w' := by
  have cI := (show Hid _ from frameIn_no s.size (by omega))
  go_enter Tryd.func16, Tryd.ntmps16
  go_wp2_with fail
  refine (cI.out _).mono ?_
  rintro e w0 ⟨rfl, hw⟩
  rw [hw]
  clear hw w0
  go_wp2
  go_ret2
  exact ⟨rfl, Below.refl _ _⟩
end Go.Proofs.YtjkgjnpifdafaabDoor
