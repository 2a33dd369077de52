/-
  The walk of impl.inOrder at items: what a map holds, by its keys.
-/
import Derived.Test.YtohpkegbmhmjeaaGreatDoorJoint1
import Derived.Test.YtohpkegbmhmjeaaGreatDoorJoint36
import Derived.Laws.MakeOwn
import Derived.Deep.LoopGhost
import Derived.OwnWalk
import Derived.WalkKit
namespace Go.Proofs.YtohpkegbmhmjeaaGreatDoor
open Go.RowKit Go.Maps Go.Sort

set_option maxRecDepth 1000000 in
set_option maxHeartbeats 4000000 in
theorem inOrderI_any (b : Nat) (li : List ItemD) (ha : AscBy keyLt li) (hl : li.length ≤ 8) (hfit : ∀ e ∈ li, e.key.size ≤ 8) (w : World) (h : HMap 9 itKl itV w b li) :
    Calls Tryz.prog 49 #[.map (some b)] w fun e w' => ∃ va vc, e = .returned (.slice va li.length vc) ∧ w'.ownsRow w.heap.size 41 3 (.slice va li.length vc) li.length (itemCells li) ∧ Below w.heap.size w w' := by
  obtain ⟨i0, hi, hz0, hz1, hz2⟩ := info_parts toItem_info
  have hln := h.len iKeyed (iNodup ha) Tryz.underlying63
  obtain ⟨W1, hmk, hr1, hg1⟩ := run_make_own (P := Tryz.prog) w w.heap.size 25 41 i0 _ 3 Tryz.underlying25 hi hz0 hz1 .i64 .i64 li.length (by rw [hz2]; omega) (by unfold maxLen; omega) (Nat.le_refl _)
  have h1 : HMap 9 itKl itV W1 b li := h.kept hg1 (by simp)
  have hb1 : Below w.heap.size w W1 := (Below.refl _ w).grown hg1 (Nat.le_refl _) (fun k e => by cases e)
  obtain ⟨D, hD1, hD2, hD3⟩ := keysI h1 ha
  have CK := hid ((callsIn_wide (n := 5)).1 (Tryz.maps_Keys_74 (some b) W1))
  have CS := hid ((callsIn_wide (n := 5)).1 (Tryz.slices_Sorted_keys_73_74 b _ D heldR W1 hD1 (by unfold maxLen; omega) (by omega)))
  have bk := below_more (Below.refl W1.heap.size W1) (.cells #[.map (some b)] 63)
  have BK := hid bk
  have B1 := hid hb1
  have M1 := hid h1
  have R1 := hid hr1
  have HD3 := hid hD3
  clear h hg1 h1 hb1 hD1 hD3 bk hr1
  go_enter Tryz.func49, Tryz.ntmps49
  go_wp2_with fail
  refine Calls.mono CK.out ?_
  rintro e w2 ⟨rfl, hw2⟩
  rw [hw2]
  clear hw2 w2 CK
  go_wp2_with fail
  refine Calls.mono CS.out ?_
  rintro e w3 ⟨v, ss, rfl, hS, hrow, _, b3⟩
  have hperm := hS.trans HD3.out.symm
  have hsl : ss.length = li.length := by rw [hperm.length_eq, List.length_map]
  rw [hsl, mergeSort_of_perm hperm, keys_sorted ha] at hrow
  obtain ⟨na, nc, rfl⟩ := row_shape hrow
  have b13 := below_via BK.out b3
  have B3 := hid (below_via B1.out b13)
  have M3 := hid (M1.out.on b13)
  have R3 := hid (row_onK R1.out b13)
  have K3 := hid (own_ofK hrow)
  clear hS hrow b3 hperm hsl b13 B1 M1 R1 CS hln hmk BK
  go_wp2
  go_loopg [3, 5, 13] li.length (fun q v _ i wr => ∃ (k : Nat), k + q = li.length ∧ i = .int .i64 k ∧ ∃ va vc, v = .slice va (li.take k).length vc ∧ Hid (Below w.heap.size w wr) ∧ Hid (HMap 9 itKl itV wr b li) ∧ Hid (wr.ownsRow w.heap.size 41 3 (.slice va (li.take k).length vc) (li.take k).length (itemCells (li.take k))) ∧ ∃ lo hi, Hid (OwnAt wr 9 ((li.map (fun e => e.key.data.toList)).map encStr) li.length na lo hi))
  case atStart => exact ⟨0, by omega, rfl, _, _, rfl, B3, M3, R3, _, _, K3⟩
  case round =>
    obtain ⟨k, hkg, rfl, va, vc, rfl, BR, MR, RR, lo, hi', KR⟩ := hrel
    clear B3 M3 R3 K3
    have hwz : w.heap.size ≤ wr.heap.size := BR.out.size
    cases gk with
    | zero =>
      have hlt : ¬ (k : Int) < (li.length : Int) := by omega
      obtain rfl : k = li.length := by omega
      rw [List.take_length] at RR ⊢
      go_wp2
      go_ret
      exact ⟨va, vc, rfl, RR.out, BR.out⟩
    | succ q =>
      have hlt : k < li.length := by omega
      have hlt' : (k : Int) < (li.length : Int) := by omega
      obtain ⟨g, rfl, x0⟩ := own_cell (k := k) (u := .string li[k].key) KR.out (by omega) (by simp [hlt, encStr])
      have hget : (Instr.lookup 63 (.map (some b)) (.string li[k].key) false).run Tryz.prog wr = .ok (.agg #[.string li[k].key, .string li[k].val, .int .i64 li[k].ver]) wr := MR.out.get iKeyed Tryz.underlying63 (iZero wr) (List.getElem_mem hlt) (iKey (by have := hfit _ (List.getElem_mem hlt); unfold maxLen; omega))
      obtain ⟨L, hL⟩ : ∃ L, li.take k = L := ⟨_, rfl⟩
      have HST : Hid (li.take (k + 1) = L ++ [li[k]]) := by show _ = _; rw [List.take_succ_eq_append_getElem hlt, hL]
      have hLl : L.length ≤ 8 := by rw [← hL, List.length_take]; omega
      rw [hL] at RR ⊢
      clear hL
      have hnew := itemR_new wr li[k]
      have hone := itemR_one li[k]
      have bb := below_more (Below.refl wr.heap.size wr) (.cells #[.string li[k].key, .string li[k].val, .int .i64 li[k].ver] 41)
      have B4 := hid (below_via BR.out bb)
      have hrow := itemR_below RR.out bb
      have M4 := hid (MR.out.on bb)
      have K4 := hid (KR.out.on bb)
      have hbase : w.heap.size ≤ (wr.alloc (.cells #[.string li[k].key, .string li[k].val, .int .i64 li[k].ver] 41)).heap.size := B4.out.size
      clear bb BR RR MR KR
      go_wp2_with (at_builtin; refine wpList_append_own _ rfl (.tmp 17) (.tmp 21) 25 rfl w.heap.size 41 i0 _ 3 40 Tryz.underlying25 hi hz0 hz1 hz2 rfl (by decide) _ _ _ rfl hrow ⟨wr.heap.size, 0, none⟩ 1 1 (itemEnc li[k]) rfl rfl hnew hone (by unfold maxLen; omega) (by omega) hbase ?_)
      intro v' w4 hown hgrow _
      obtain ⟨va', vc', rfl⟩ := row_shape hown
      rw [← itemR_snoc] at hown
      have B5 := hid (itemR_down B4.out hrow hgrow (Nat.le_refl _) hbase)
      have R5 := hid hown
      have M5 := hid (M4.out.grownRow hrow hgrow)
      have K5 := hid (K4.out.grownRow hrow hgrow (by decide))
      have HL2 : Hid ((L ++ [li[k]]).length = L.length + 1) := by show _ = _; simp
      clear hown hgrow hrow hbase B4 M4 K4 hnew hone hget
      go_wp2
      go_roundg q
      case measure => omega
      case rel =>
        refine ⟨k + 1, by omega, by go_num, va', vc', by rw [HST.out, HL2.out], B5, M5, ?_, _, _, K5⟩
        rw [HST.out, HL2.out]
        exact R5
end Go.Proofs.YtohpkegbmhmjeaaGreatDoor
