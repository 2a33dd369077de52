/-
  The walk of impl.Frame: what it answers.
-/
import Derived.Test.YtjkgjnpifdafaabDoorJoint29
import Derived.Test.YtjkgjnpifdafaabDoorJoint31
import Derived.Test.YtjkgjnpifdafaabDoorJoint32
import Derived.Test.YtjkgjnpifdafaabDoorJoint1
namespace Go.Proofs.YtjkgjnpifdafaabDoor
open Go.RowKit

set_option maxRecDepth 1000000 in
set_option maxHeartbeats 1000000 in
theorem implFrame_yes (s : ByteArray) (h1 : 1 ≤ s.size) (hs : s.size ≤ 9000) (w : World) (ht : Steps w) :
    Calls Tryd.prog 44 #[.string s] w fun e w' => e = .returned (.tuple #[.string (frm s), .bool true]) ∧ Below w.heap.size w w' := by
  have HT := (show Hid _ from ht)
  have cV := (show Hid _ from implVarText_yes s.size (by omega))
  have cS' := fun w h => implSumOf_any s (by omega) w h
  have cF' := sumBytes_any (sumOf s.data.toList) (sumOf_lt _)
  have hvl := vb_le s.size
  have hfr : frm s = ⟨(vb s.size).toArray⟩ ++ ⟨(four (sumOf s.data.toList)).toArray⟩ ++ s := rfl
  rw [hfr]
  clear hfr
  obtain ⟨N, hN⟩ : ∃ N, sumOf s.data.toList = N := ⟨_, rfl⟩
  rw [hN] at cS' cF' ⊢
  have hfs : (⟨(four N).toArray⟩ : ByteArray).size = 4 := rfl
  have hvs : (⟨(vb s.size).toArray⟩ : ByteArray).size ≤ 9001 := by show (vb s.size).toArray.size ≤ 9001; simp; omega
  obtain ⟨V, hV⟩ : ∃ V : ByteArray, ⟨(vb s.size).toArray⟩ = V := ⟨_, rfl⟩
  obtain ⟨F, hF⟩ : ∃ F : ByteArray, ⟨(four N).toArray⟩ = F := ⟨_, rfl⟩
  rw [hV] at cV hvs ⊢
  rw [hF] at cF' hfs ⊢
  have cS := (show Hid _ from cS')
  have cF := (show Hid _ from cF')
  clear hN cS' cF' ht hV hF hvl
  go_enter Tryd.func44, Tryd.ntmps44
  go_wp2_with fail
  refine (cV.out _).mono ?_
  rintro e w1 ⟨rfl, b1⟩
  go_wp2_with fail
  refine (cS.out _ (steps_on HT.out b1)).mono ?_
  rintro e w2 ⟨rfl, hw⟩
  rw [hw]
  clear hw w2
  go_wp2_with fail
  refine (cF.out _).mono ?_
  rintro e w2 ⟨rfl, b2⟩
  have hvf : (V ++ F).size ≤ 9005 := by rw [ByteArray.size_append]; omega
  go_wp2
  go_ret2
  exact ⟨rfl, b1.trans (b2.mono b1.size)⟩

theorem implFrame_no (s : ByteArray) (h : s.size < 1 ∨ 9000 < s.size) (w : World) :
    Calls Tryd.prog 44 #[.string s] w fun e w' => e = .returned (.tuple #[.string ByteArray.empty, .bool false]) ∧ Below w.heap.size w w' := by
  by_cases h1 : s.size < 1
  · go_enter Tryd.func44, Tryd.ntmps44
    go_wp2
    go_ret2
    exact ⟨rfl, Below.refl _ _⟩
  · have h2 : 9000 < s.size := by omega
    go_enter Tryd.func44, Tryd.ntmps44
    go_wp2
    go_ret2
    exact ⟨rfl, Below.refl _ _⟩
end Go.Proofs.YtjkgjnpifdafaabDoor
