/-
  The walks of spec.l03Name, spec.DiskOk: what they answer.
-/
import Derived.Test.YtcneaidfhmbdmabDoorJoint1
import Derived.Test.YtcneaidfhmbdmabDoorJoint12
import Derived.Deep.QuietTactic
import Derived.Laws.Cover1
namespace Go.Proofs.YtcneaidfhmbdmabDoor
open Go.RowKit

theorem l03Name_any (s : ByteArray) (w : World) :
    Calls Tryd.prog 39 #[.string s] w fun e w' => e = .returned (.bool (nameOk s)) ∧ w' = w := by
  have C := (show Hid _ from l01In_any s.size 1 8 w)
  go_enter Tryd.func39, Tryd.ntmps39
  go_wp2_with fail
  refine Calls.mono C.out ?_
  rintro e w1 ⟨rfl, hw⟩
  rw [hw]
  go_wp2
  go_ret
  exact ⟨rfl, rfl⟩

set_option maxRecDepth 1000000 in
set_option maxHeartbeats 1000000 in
theorem specDiskOk_any (ao : Option Addr) (l : List FileD) (cap : Nat) (hl : l.length ≤ 16777216) (w : World) (ha : FilesAt w ao l) :
    Calls Tryd.prog 20 #[.agg #[.slice ao l.length cap]] w fun e w' => e = .returned (.bool (diskOk l)) ∧ Below w.heap.size w w' := by
  have HA := (show Hid (FilesAt w ao l) from ha)
  clear ha
  by_cases h30 : (30 : Int) < (l.length : Int)
  · have hr : Hid (diskOk l = false) := by show _ = _; unfold diskOk; simp; omega
    go_enter Tryd.func20, Tryd.ntmps20
    go_wp2
    go_ret
    exact ⟨by rw [hr.out]; rfl, below_more (Below.refl _ w) _⟩
  · have HB := (show Hid _ from below_more (Below.refl w.heap.size w) (.cells #[.slice ao l.length cap] 33))
    have HX := (show Hid (BlockIs (w.alloc (.cells #[.slice ao l.length cap] 33)) w.heap.size 33 [.slice ao l.length cap]) from heap_alloc_new w _)
    go_enter Tryd.func20, Tryd.ntmps20
    go_wp2
    go_loopg [3, 4] l.length (fun g i _ wr => ∃ (k : Nat), k + g = l.length ∧ i = .int .i64 k ∧ Hid (Below w.heap.size w wr) ∧ Hid (BlockIs wr w.heap.size 33 [.slice ao l.length cap]) ∧ Hid (rightTo l k = true))
    case atStart => exact ⟨0, by omega, rfl, HB, HX, rfl⟩
    case round =>
      obtain ⟨k, hkg, rfl, BR, XR, RT⟩ := hrel
      clear HB HX
      have c0 := XR.out.cell (j := 0) rfl
      cases gk with
      | zero =>
        have hlt : ¬ (k : Int) < (l.length : Int) := by omega
        have hr : Hid (diskOk l = true) := by show _ = _; exact diskOk_of (by omega) (by rw [← RT.out, show k = l.length by omega])
        go_wp2
        go_ret
        exact ⟨by rw [hr.out]; rfl, BR.out⟩
      | succ g =>
        have hlt : k < l.length := by omega
        have hlt' : (k : Int) < (l.length : Int) := by omega
        have hne : l ≠ [] := by intro e; rw [e] at hlt; simp at hlt
        obtain ⟨b, off, rfl, hc⟩ := HA.out.on BR.out hne
        obtain ⟨x0, x1, x2⟩ := hc k hlt
        have hcc := hc
        clear hc
        have HC := (show Hid _ from hcc)
        clear hcc
        go_wp2
        generalize hW2 : wr.alloc (.cells #[.string l[k].name, .string l[k].text, .int .i64 l[k].kept] 48) = W2
        have hb2 : Below wr.heap.size wr W2 := by rw [← hW2]; exact below_more (Below.refl _ wr) _
        have hx2 : BlockIs W2 wr.heap.size 48 [.string l[k].name, .string l[k].text, .int .i64 l[k].kept] := by rw [← hW2]; exact heap_alloc_new wr _
        have n0 := hx2.cell (j := 0) rfl
        have n1 := hx2.cell (j := 1) rfl
        have n2 := hx2.cell (j := 2) rfl
        have XW := XR.out.on hb2 XR.out.lt
        have d0 := XW.cell (j := 0) rfl
        have B2 := (show Hid (Below w.heap.size w W2) from below_via BR.out hb2)
        have X2 := (show Hid _ from XW)
        have cN' := fun w => l03Name_any l[k].name w
        have cK' := fun w => l01In_any l[k].kept 0 l[k].text.size w
        clear hW2 hx2 c0 x0 x1 x2 XW
        cases hA : nameOk l[k].name with
        | false =>
          have hr : Hid (diskOk l = false) := not_diskOk hlt (by simp [fileOk, hA])
          rw [hA] at cN'
          have cN := (show Hid _ from cN')
          clear cN' cK' hA
          go_quiet (first | (go_at_call 39; refine Calls.quiet_of_same (cN.out _)) | fail)
          go_wp2
          go_ret
          exact ⟨by rw [hr.out]; rfl, below_drewN B2.out _⟩
        | true =>
          rw [hA] at cN'
          have cN := (show Hid _ from cN')
          clear cN'
          by_cases hB : (20000 : Int) < (l[k].text.size : Int)
          · have hF : ¬ l[k].text.size ≤ 20000 := by omega
            have hr : Hid (diskOk l = false) := not_diskOk hlt (by simp [fileOk, hF])
            clear hA cK'
            go_quiet (first | (go_at_call 39; refine Calls.quiet_of_same (cN.out _)) | fail)
            go_wp2
            go_ret
            exact ⟨by rw [hr.out]; rfl, below_drewN B2.out _⟩
          · have hB' : decide ((20000 : Int) < (l[k].text.size : Int)) = false := by simpa using hB
            cases hK : within l[k].kept 0 l[k].text.size with
            | false =>
              have hr : Hid (diskOk l = false) := not_diskOk hlt (by simp [fileOk, hK])
              rw [hK] at cK'
              have cK := (show Hid _ from cK')
              clear cK' hK hA
              go_quiet (first | (go_at_call 39; refine Calls.quiet_of_same (cN.out _)) | (go_at_call 40; refine Calls.quiet_of_same (cK.out _)) | fail)
              go_wp2
              go_ret
              exact ⟨by rw [hr.out]; rfl, below_drewN B2.out _⟩
            | true =>
              rw [hK] at cK'
              have cK := (show Hid _ from cK')
              clear cK'
              cases k with
              | zero =>
                have hF : l[0].text.size ≤ 20000 := by omega
                have HR : Hid (rightTo l 1 = true) := by show _ = _; rw [rightTo_step hlt]; simp [rightTo, fileOk, behind, hA, hK, hF]
                clear hK hA
                go_quiet (first | (go_at_call 39; refine Calls.quiet_of_same (cN.out _)) | (go_at_call 40; refine Calls.quiet_of_same (cK.out _)) | fail)
                go_wp2
                go_roundg g
                case measure => omega
                case rel => exact ⟨1, by omega, by go_num, below_drewN B2.out _, X2, HR⟩
              | succ j =>
                have hj : j < l.length := by omega
                have p0 : W2.cell? ⟨b, off + j * 3, none⟩ = some (.string l[j].name) := (hb2.cell (p := ⟨b, off + j * 3, none⟩) (World.block_lt_of_cell? wr _ (HC.out j hj).1)).trans (HC.out j hj).1
                have hpos : (0 : Int) < (((j + 1 : Nat)) : Int) := by omega
                have hsub : (((j + 1 : Nat)) : Int) - 1 = (j : Int) := by omega
                have hjl : (j : Int) < (l.length : Int) := by omega
                have hwj : IntKind.i64.wrap (j : Int) = (j : Int) := by rw [IntKind.wrap_i64]; omega
                cases hL : textLt l[j].name l[j + 1].name with
                | false =>
                  have hr : Hid (diskOk l = false) := not_diskOk hlt (by rw [behind_step hlt, hL]; simp)
                  have hL' : Op.bytesLess l[j].name.toList l[j + 1].name.toList = false := hL
                  clear hK hA hL
                  go_quiet (first | (go_at_call 39; refine Calls.quiet_of_same (cN.out _)) | (go_at_call 40; refine Calls.quiet_of_same (cK.out _)) | fail)
                  go_wp2
                  go_ret
                  exact ⟨by rw [hr.out]; rfl, below_drewN B2.out _⟩
                | true =>
                  have hF : l[j + 1].text.size ≤ 20000 := by omega
                  have HR : Hid (rightTo l (j + 1 + 1) = true) := by show _ = _; rw [rightTo_step hlt, RT.out, behind_step hlt, hL]; simp [fileOk, hA, hK, hF]
                  have hL' : Op.bytesLess l[j].name.toList l[j + 1].name.toList = true := hL
                  clear hK hA hL
                  go_quiet (first | (go_at_call 39; refine Calls.quiet_of_same (cN.out _)) | (go_at_call 40; refine Calls.quiet_of_same (cK.out _)) | fail)
                  go_wp2
                  go_roundg g
                  case measure => omega
                  case rel => exact ⟨j + 1 + 1, by omega, by go_num, below_drewN B2.out _, X2, HR⟩
end Go.Proofs.YtcneaidfhmbdmabDoor
