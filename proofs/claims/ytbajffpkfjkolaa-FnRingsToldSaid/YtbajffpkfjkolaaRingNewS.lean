/-
  The walk of spec.RingNew: so many slots of the driver.
-/
import Derived.Test.YtbajffpkfjkolaaNewDid
import Derived.OwnWalk
import Derived.Test.YtbajffpkfjkolaaInS
namespace Go.Proofs.Ytbajffpkfjkolaa
open Go.RowKit

set_option maxRecDepth 1000000 in
set_option maxHeartbeats 1000000 in
theorem specNew_any (n : Int) (w : World) : Calls Try.prog 33 #[.int .i64 n] w fun e w' => NewDid n w e w' := by
  have hx0 : BlockIs (w.alloc (.cells #[.slice none 0 0, .int .i64 0, .int .i64 0] 26)) w.heap.size 26 [.slice none 0 0, .int .i64 0, .int .i64 0] := heap_alloc_new w _
  have hb0 := below_more (Below.refl w.heap.size w) (.cells #[.slice none 0 0, .int .i64 0, .int .i64 0] 26)
  obtain ⟨WW, hWW⟩ : ∃ WW, w.alloc (.cells #[.slice none 0 0, .int .i64 0, .int .i64 0] 26) = WW := ⟨_, rfl⟩
  rw [hWW] at hx0 hb0
  have X0 := hid hx0
  have B0 := hid hb0
  have hWl := hx0.lt
  clear hx0 hb0
  by_cases h1 : 1 ≤ n ∧ n ≤ 8
  · obtain ⟨k, rfl⟩ := Int.eq_ofNat_of_zero_le (show 0 ≤ n by omega)
    have HN : Hid (newOk k = true) := by show _ = _; unfold newOk; simp; omega
    obtain ⟨h1a, h1b⟩ := h1
    obtain ⟨i0, hi, hz0, hz1, hz2⟩ := info_parts toSlot_info
    go_enter Try.func33, Try.ntmps33
    have hwi : Hid (within (k : Int) 1 8 = true) := by show _ = _; simp [within]; omega
    go_wp2_with fail
    refine (l01In_any _ _ _ _).mono ?_
    rintro e w5 ⟨rfl, hw5⟩
    rw [hw5, hwi.out]; clear hw5 w5
    go_wp2_with (at_make; refine wpList_make_full _ rfl (.tmp 8) (.tmp 8) 24 rfl WW.heap.size 42 i0 (.agg #[.int .i64 0, .string ByteArray.empty]) 2 Try.underlying24 hi hz0 hz1 _ _ _ _ k rfl rfl rfl rfl ?b2 ?b3 ?b4 ?_)
    case b2 => rw [hz2]; omega
    case b3 => unfold maxLen; omega
    case b4 => exact Nat.le_refl _
    intro w1 hown hgrow
    have hm := BlockIs.made hown
    have hm : BlockIs w1 WW.heap.size 42 (slotCells (List.replicate k slot0)) := by rw [← made_zero]; exact hm
    have hB1 := (Below.refl WW.heap.size WW).grown hgrow (Nat.le_refl _) (fun k h => by cases h)
    have X1 := X0.out.on hB1 hWl
    have c0 := X1.cell (j := 0) rfl
    have c1 := X1.cell (j := 1) rfl
    have c2 := X1.cell (j := 2) rfl
    have f0 := X1.thaw 0
    have f1 := X1.thaw 1
    have f2 := X1.thaw 2
    have BL := hid ((((below_via B0.out hB1).setCell (p := ⟨w.heap.size, 0, none⟩) (Nat.le_refl _) (.slice (some ⟨WW.heap.size, 0, none⟩) k k)).setCell (p := ⟨w.heap.size, 1, none⟩) (Nat.le_refl _) (.int .i64 0)).setCell (p := ⟨w.heap.size, 2, none⟩) (Nat.le_refl _) (.int .i64 0))
    have HP := hid (((hm.far (show w.heap.size ≠ WW.heap.size by omega) (j := 0) (.slice (some ⟨WW.heap.size, 0, none⟩) k k)).far (show w.heap.size ≠ WW.heap.size by omega) (j := 1) (.int .i64 0)).far (show w.heap.size ≠ WW.heap.size by omega) (j := 2) (.int .i64 0))
    clear hown hgrow hB1 X1 hm
    go_wp2
    refine bodyPost_ret (v := .tuple #[.agg #[.slice (some ⟨WW.heap.size, 0, none⟩) k k, .int .i64 0, .int .i64 0], .bool true]) (by simp [results, Try.results33, go_sem, c0, c1, c2]) rfl ?_
    exact new_yes HN.out (by omega) HP.out BL.out
  · skip
    have HN : Hid (newOk n = false) := by show _ = _; unfold newOk; simp; omega
    have c0 := X0.out.cell (j := 0) rfl
    have c1 := X0.out.cell (j := 1) rfl
    have c2 := X0.out.cell (j := 2) rfl
    have f0 := X0.out.thaw 0
    have f1 := X0.out.thaw 1
    have f2 := X0.out.thaw 2
    have BL := hid (((B0.out.setCell (p := ⟨w.heap.size, 0, none⟩) (Nat.le_refl _) (.slice none 0 0)).setCell (p := ⟨w.heap.size, 1, none⟩) (Nat.le_refl _) (.int .i64 0)).setCell (p := ⟨w.heap.size, 2, none⟩) (Nat.le_refl _) (.int .i64 0))
    go_enter Try.func33, Try.ntmps33
    have hwi : Hid (within n 1 8 = false) := by show _ = _; simp [within]; omega
    go_wp2_with fail
    refine (l01In_any _ _ _ _).mono ?_
    rintro e w5 ⟨rfl, hw5⟩
    rw [hw5, hwi.out]; clear hw5 w5
    go_wp2
    refine bodyPost_ret (v := .tuple #[.agg #[.slice none 0 0, .int .i64 0, .int .i64 0], .bool false]) (by simp [results, Try.results33, go_sem, c0, c1, c2]) rfl ?_
    exact new_no HN.out BL.out
end Go.Proofs.Ytbajffpkfjkolaa
