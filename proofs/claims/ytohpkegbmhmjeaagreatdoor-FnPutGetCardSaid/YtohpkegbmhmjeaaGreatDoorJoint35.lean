/-
  The walk of impl.inOrder at sessions: what a map holds, by its keys.
-/
import Derived.Test.YtohpkegbmhmjeaaGreatDoorJoint1
import Derived.Laws.MakeOwn
import Derived.Deep.LoopGhost
import Derived.OwnWalk
import Derived.WalkKit
namespace Go.Proofs.YtohpkegbmhmjeaaGreatDoor
open Go.RowKit Go.Maps Go.Sort

set_option maxRecDepth 1000000 in
set_option maxHeartbeats 4000000 in
theorem inOrderS_any (b : Nat) (ls : List SessionD) (ha : AscBy tokenLt ls) (hl : ls.length ≤ 8) (hfit : ∀ e ∈ ls, -9223372036854775808 ≤ e.token ∧ e.token ≤ 9223372036854775807) (w : World) (h : HMap 3 sesKl sesV w b ls) :
    Calls Tryz.prog 48 #[.map (some b)] w fun e w' => ∃ va vc, e = .returned (.slice va ls.length vc) ∧ w'.ownsRow w.heap.size 36 3 (.slice va ls.length vc) ls.length (sessionCells ls) ∧ Below w.heap.size w w' := by
  obtain ⟨i0, hi, hz0, hz1, hz2⟩ := info_parts toSession_info
  have hln := h.len sKeyed (sNodup ha) Tryz.underlying62
  obtain ⟨W1, hmk, hr1, hg1⟩ := run_make_own (P := Tryz.prog) w w.heap.size 24 36 i0 _ 3 Tryz.underlying24 hi hz0 hz1 .i64 .i64 ls.length (by rw [hz2]; omega) (by unfold maxLen; omega) (Nat.le_refl _)
  have h1 : HMap 3 sesKl sesV W1 b ls := h.kept hg1 (by simp)
  have hb1 : Below w.heap.size w W1 := (Below.refl _ w).grown hg1 (Nat.le_refl _) (fun k e => by cases e)
  obtain ⟨D, hD1, hD2, hD3⟩ := keysS h1 ha
  have CK := hid ((callsIn_wide (n := 5)).1 (Tryz.maps_Keys_69 (some b) W1))
  have CS := hid ((callsIn_wide (n := 5)).1 (Tryz.slices_Sorted_keys_72_69 b _ D heldR W1 hD1 (by unfold maxLen; omega) (by omega)))
  have bk := below_more (Below.refl W1.heap.size W1) (.cells #[.map (some b)] 62)
  have BK := hid bk
  have B1 := hid hb1
  have M1 := hid h1
  have R1 := hid hr1
  have HD3 := hid hD3
  clear h hg1 h1 hb1 hD1 hD3 bk hr1
  go_enter Tryz.func48, Tryz.ntmps48
  go_wp2_with fail
  refine Calls.mono CK.out ?_
  rintro e w2 ⟨rfl, hw2⟩
  rw [hw2]
  clear hw2 w2 CK
  go_wp2_with fail
  refine Calls.mono CS.out ?_
  rintro e w3 ⟨v, ss, rfl, hS, hrow, _, b3⟩
  have hperm := hS.trans HD3.out.symm
  have hsl : ss.length = ls.length := by rw [hperm.length_eq, List.length_map]
  rw [hsl, mergeSort_of_perm_i hperm, tokens_sorted ha] at hrow
  obtain ⟨na, nc, rfl⟩ := row_shape hrow
  have b13 := below_via BK.out b3
  have B3 := hid (below_via B1.out b13)
  have M3 := hid (M1.out.on b13)
  have R3 := hid (row_onK R1.out b13)
  have K3 := hid (own_ofK hrow)
  clear hS hrow b3 hperm hsl b13 B1 M1 R1 CS hln hmk BK
  go_wp2
  go_loopg [3, 5, 13] ls.length (fun q v _ i wr => ∃ (k : Nat), k + q = ls.length ∧ i = .int .i64 k ∧ ∃ va vc, v = .slice va (ls.take k).length vc ∧ Hid (Below w.heap.size w wr) ∧ Hid (HMap 3 sesKl sesV wr b ls) ∧ Hid (wr.ownsRow w.heap.size 36 3 (.slice va (ls.take k).length vc) (ls.take k).length (sessionCells (ls.take k))) ∧ ∃ lo hi, Hid (OwnAt wr 3 ((ls.map (fun s => s.token)).map encZ) ls.length na lo hi))
  case atStart => exact ⟨0, by omega, rfl, _, _, rfl, B3, M3, R3, _, _, K3⟩
  case round =>
    obtain ⟨k, hkg, rfl, va, vc, rfl, BR, MR, RR, lo, hi', KR⟩ := hrel
    clear B3 M3 R3 K3
    have hwz : w.heap.size ≤ wr.heap.size := BR.out.size
    cases gk with
    | zero =>
      have hlt : ¬ (k : Int) < (ls.length : Int) := by omega
      obtain rfl : k = ls.length := by omega
      rw [List.take_length] at RR ⊢
      go_wp2
      go_ret
      exact ⟨va, vc, rfl, RR.out, BR.out⟩
    | succ q =>
      have hlt : k < ls.length := by omega
      have hlt' : (k : Int) < (ls.length : Int) := by omega
      obtain ⟨g, rfl, x0⟩ := own_cell (k := k) (u := .int .i64 ls[k].token) KR.out (by omega) (by simp [hlt])
      have hget : (Instr.lookup 62 (.map (some b)) (.int .i64 ls[k].token) false).run Tryz.prog wr = .ok (.agg #[.int .i64 ls[k].token, .int .i64 ls[k].last, .string ls[k].reply]) wr := MR.out.get sKeyed Tryz.underlying62 (sZero wr) (List.getElem_mem hlt) (sKey (hfit _ (List.getElem_mem hlt)).1 (hfit _ (List.getElem_mem hlt)).2)
      obtain ⟨L, hL⟩ : ∃ L, ls.take k = L := ⟨_, rfl⟩
      have HST : Hid (ls.take (k + 1) = L ++ [ls[k]]) := by show _ = _; rw [List.take_succ_eq_append_getElem hlt, hL]
      have hLl : L.length ≤ 8 := by rw [← hL, List.length_take]; omega
      rw [hL] at RR ⊢
      clear hL
      have hnew := sessionR_new wr ls[k]
      have hone := sessionR_one ls[k]
      have bb := below_more (Below.refl wr.heap.size wr) (.cells #[.int .i64 ls[k].token, .int .i64 ls[k].last, .string ls[k].reply] 36)
      have B4 := hid (below_via BR.out bb)
      have hrow := sessionR_below RR.out bb
      have M4 := hid (MR.out.on bb)
      have K4 := hid (KR.out.on bb)
      have hbase : w.heap.size ≤ (wr.alloc (.cells #[.int .i64 ls[k].token, .int .i64 ls[k].last, .string ls[k].reply] 36)).heap.size := B4.out.size
      clear bb BR RR MR KR
      go_wp2_with (at_builtin; refine wpList_append_own _ rfl (.tmp 17) (.tmp 21) 24 rfl w.heap.size 36 i0 _ 3 32 Tryz.underlying24 hi hz0 hz1 hz2 rfl (by decide) _ _ _ rfl hrow ⟨wr.heap.size, 0, none⟩ 1 1 (sessionEnc ls[k]) rfl rfl hnew hone (by unfold maxLen; omega) (by omega) hbase ?_)
      intro v' w4 hown hgrow _
      obtain ⟨va', vc', rfl⟩ := row_shape hown
      rw [← sessionR_snoc] at hown
      have B5 := hid (sessionR_down B4.out hrow hgrow (Nat.le_refl _) hbase)
      have R5 := hid hown
      have M5 := hid (M4.out.grownRow hrow hgrow)
      have K5 := hid (K4.out.grownRow hrow hgrow (by decide))
      have HL2 : Hid ((L ++ [ls[k]]).length = L.length + 1) := by show _ = _; simp
      clear hown hgrow hrow hbase B4 M4 K4 hnew hone hget
      go_wp2
      go_roundg q
      case measure => omega
      case rel =>
        refine ⟨k + 1, by omega, by go_num, va', vc', by rw [HST.out, HL2.out], B5, M5, ?_, _, _, K5⟩
        rw [HST.out, HL2.out]
        exact R5
end Go.Proofs.YtohpkegbmhmjeaaGreatDoor
