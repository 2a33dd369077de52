/-
  The walk of spec.KeepOk: a keep that is right.
  The walk of spec.l01Var: what it answers.
  The walk of spec.l16Short.
-/
import Derived.Test.YtihgkocfgjihhaaGreatDoorJoint33
import Derived.Test.YtihgkocfgjihhaaGreatDoorRows
import Derived.Test.YtihgkocfgjihhaaGreatDoorJoint1
import Derived.WalkKit
namespace Go.Proofs.YtihgkocfgjihhaaGreatDoor
open Go.RowKit

set_option maxRecDepth 1000000 in
set_option maxHeartbeats 20000000 in
theorem specKeepOk_any (ao bo : Option Addr) (ls : List SessionD) (li : List ItemD) (ac bc : Nat) (hl : ls.length ≤ 1048576) (hl' : li.length ≤ 1048576) (w : World) (ha : SessionsAt w ao ls) (hi : ItemsAt w bo li) :
    Calls Tryz.prog 114 #[.agg #[.slice ao ls.length ac, .slice bo li.length bc]] w fun e w' => e = .returned (.bool (keepOk ls li)) ∧ Below w.heap.size w w' := by
  have HI := hid hi
  have HA := hid ha
  have CS := hid (fun w ha => l15Sessions_any ao ls ac hl w ha)
  have HB := hid (below_more (Below.refl w.heap.size w) (.cells #[.slice ao ls.length ac, .slice bo li.length bc] 67))
  have HX := hid (show BlockIs (w.alloc (.cells #[.slice ao ls.length ac, .slice bo li.length bc] 67)) w.heap.size 67 [.slice ao ls.length ac, .slice bo li.length bc] from heap_alloc_new w _)
  obtain ⟨R, hR⟩ : ∃ R, keepOk ls li = R := ⟨_, rfl⟩
  rw [hR]
  have HQ : Hid (rowOk itemFine keyLt li = false → R = false) := by show _ → _; intro h; rw [← hR, keepOk, itemsRight, h]; simp
  have HT : Hid (rowOk itemFine keyLt li = true → R = (sessionsRight ls && decide ((li.length : Int) ≤ 8))) := by show _ → _; intro h; rw [← hR, keepOk, itemsRight, h]; simp
  clear ha hi hR
  go_enter Tryz.func114, Tryz.ntmps114
  go_wp2
  go_loopg [3, 4] li.length (fun g i _ wr => ∃ (k : Nat), k + g = li.length ∧ i = .int .i64 k ∧ Hid (Below w.heap.size w wr) ∧ Hid (BlockIs wr w.heap.size 67 [.slice ao ls.length ac, .slice bo li.length bc]) ∧ Hid (∀ i, i < k → stepOk itemFine keyLt li i = true))
  case atStart => exact ⟨0, by omega, rfl, HB, HX, (show ∀ i, i < 0 → _ from fun i hi => absurd hi (by omega))⟩
  case round =>
    obtain ⟨k, hkg, rfl, BR, XR, RT⟩ := hrel
    clear HB HX
    have c1 := XR.out.cell (j := 1) rfl
    have c0 := XR.out.cell (j := 0) rfl
    cases gk with
    | zero =>
      have hlt : ¬ (k : Int) < (li.length : Int) := by omega
      have HR := hid (HT.out (rowOk_yes fun j hj => RT.out j (by omega)))
      go_wp2_with fail
      refine (CS.out _ (HA.out.on BR.out)).mono ?_
      rintro e w3 ⟨rfl, b3⟩
      have c1 := (XR.out.on b3 XR.out.lt).cell (j := 1) rfl
      have B3 := hid (below_via BR.out b3)
      cases hs : sessionsRight ls with
      | false =>
        rw [hs] at HR
        have HR := hid HR.out
        clear b3 hs
        go_wp2
        go_ret
        exact ⟨by rw [HR.out]; rfl, B3.out⟩
      | true =>
        rw [hs] at HR
        have HR := hid HR.out
        clear b3 hs
        go_wp2
        go_ret
        exact ⟨by rw [HR.out]; rfl, B3.out⟩
    | succ g =>
      have hlt : k < li.length := by omega
      have hlt' : (k : Int) < (li.length : Int) := by omega
      have hne : li ≠ [] := by intro e; rw [e] at hlt; simp at hlt
      obtain ⟨b, off, rfl, hc⟩ := HI.out.on BR.out hne
      obtain ⟨x0, x1, x2⟩ := hc k hlt
      have HC := hid hc
      clear hc
      go_wp2
      generalize hW2 : wr.alloc (.cells #[.string li[k].key, .string li[k].val, .int .i64 li[k].ver] 124) = W2
      have hb2 : Below wr.heap.size wr W2 := by rw [← hW2]; exact below_more (Below.refl _ wr) _
      have hx2 : BlockIs W2 wr.heap.size 124 [.string li[k].key, .string li[k].val, .int .i64 li[k].ver] := by rw [← hW2]; exact heap_alloc_new wr _
      have n0 := hx2.cell (j := 0) rfl
      have n1 := hx2.cell (j := 1) rfl
      have n2 := hx2.cell (j := 2) rfl
      have XW := XR.out.on hb2 XR.out.lt
      have d1 := XW.cell (j := 1) rfl
      have X2 := hid XW
      clear XW c0 c1
      have B2 := hid (below_via BR.out hb2)
      clear hW2 hx2 x0 x1 x2
      cases k with
      | zero =>
        have m1 := fun w => l01In_any (li[0].key.size : Int) 1 8 w
        cases hA : within (li[0].key.size : Int) 1 8 with
        | false =>
          rw [hA] at m1
          have n1' := hid m1
          clear m1
          have HR : Hid (R = false) := HQ.out (rowOk_no hlt (by rw [stepOk_zero hlt]; simp [itemFine, hA]))
          clear hA
          go_quiet (first | (go_at_call 60; with_reducible refine Calls.quiet_of_same (n1'.out _)) | fail)
          go_wp2
          go_ret
          exact ⟨by rw [HR.out]; rfl, below_drewN B2.out _⟩
        | true =>
          rw [hA] at m1
          have n1' := hid m1
          clear m1
          by_cases hB : (20 : Int) < (li[0].val.size : Int)
          · have hB' : decide ((20 : Int) < (li[0].val.size : Int)) = true := by simpa using hB
            have hF : ¬ (li[0].val.size : Int) ≤ 20 := by omega
            have HR : Hid (R = false) := HQ.out (rowOk_no hlt (by rw [stepOk_zero hlt]; simp [itemFine, hF]))
            clear hF hA
            go_quiet (first | (go_at_call 60; with_reducible refine Calls.quiet_of_same (n1'.out _)) | fail)
            go_wp2
            go_ret
            exact ⟨by rw [HR.out]; rfl, below_drewN B2.out _⟩
          · have hB' : decide ((20 : Int) < (li[0].val.size : Int)) = false := by simpa using hB
            have hF : (li[0].val.size : Int) ≤ 20 := by omega
            have m2 := fun w => l01In_any li[0].ver 1 1000000000 w
            cases hV : within li[0].ver 1 1000000000 with
            | false =>
              rw [hV] at m2
              have n2' := hid m2
              clear m2
              have HR : Hid (R = false) := HQ.out (rowOk_no hlt (by rw [stepOk_zero hlt]; simp [itemFine, hV]))
              clear hV hA hF
              go_quiet (first | (go_at_call 60; with_reducible refine Calls.quiet_of_same (n1'.out _)) | (go_at_call 60; with_reducible refine Calls.quiet_of_same (n2'.out _)) | fail)
              go_wp2
              go_ret
              exact ⟨by rw [HR.out]; rfl, below_drewN B2.out _⟩
            | true =>
              rw [hV] at m2
              have n2' := hid m2
              clear m2
              have ST : Hid (stepOk itemFine keyLt li (0) = true) := by show _ = _; rw [stepOk_zero hlt]; simp [itemFine, hA, hF, hV]
              clear hV hA hF
              go_quiet (first | (go_at_call 60; with_reducible refine Calls.quiet_of_same (n1'.out _)) | (go_at_call 60; with_reducible refine Calls.quiet_of_same (n2'.out _)) | fail)
              go_wp2
              go_roundg g
              case measure => omega
              case rel => exact ⟨1, by omega, by go_num, below_drewN B2.out _, X2, (fun i hi => by
                rcases Nat.lt_or_ge i (0) with h | h
                · exact RT.out i h
                · obtain rfl : i = 0 := by omega
                  exact ST.out)⟩
      | succ j =>
        have hj : j < li.length := by omega
        have p0 := (hb2.cell (p := ⟨b, off + j * 3, none⟩) (World.block_lt_of_cell? wr _ (HC.out j hj).1)).trans (HC.out j hj).1
        have hpos : (0 : Int) < (((j + 1 : Nat)) : Int) := by omega
        have hsub : (((j + 1 : Nat)) : Int) - 1 = (j : Int) := by omega
        have hjl : (j : Int) < (li.length : Int) := by omega
        have hwj : IntKind.i64.wrap (j : Int) = (j : Int) := by rw [IntKind.wrap_i64]; omega
        have m1 := fun w => l01In_any (li[j + 1].key.size : Int) 1 8 w
        cases hA : within (li[j + 1].key.size : Int) 1 8 with
        | false =>
          rw [hA] at m1
          have n1' := hid m1
          clear m1
          have HR : Hid (R = false) := HQ.out (rowOk_no hlt (by rw [stepOk_succ hlt]; simp [itemFine, hA]))
          clear hA
          go_quiet (first | (go_at_call 60; with_reducible refine Calls.quiet_of_same (n1'.out _)) | fail)
          go_wp2
          go_ret
          exact ⟨by rw [HR.out]; rfl, below_drewN B2.out _⟩
        | true =>
          rw [hA] at m1
          have n1' := hid m1
          clear m1
          cases hL : Op.bytesLess li[j].key.toList li[j + 1].key.toList with
          | false =>
            have hK : keyLt li[j] li[j + 1] = false := hL
            have HR : Hid (R = false) := HQ.out (rowOk_no hlt (by rw [stepOk_succ hlt]; simp [itemFine, hK]))
            clear hK hA
            go_quiet (first | (go_at_call 60; with_reducible refine Calls.quiet_of_same (n1'.out _)) | fail)
            go_wp2
            go_ret
            exact ⟨by rw [HR.out]; rfl, below_drewN B2.out _⟩
          | true =>
            have hK : keyLt li[j] li[j + 1] = true := hL
            by_cases hB : (20 : Int) < (li[j + 1].val.size : Int)
            · have hB' : decide ((20 : Int) < (li[j + 1].val.size : Int)) = true := by simpa using hB
              have hF : ¬ (li[j + 1].val.size : Int) ≤ 20 := by omega
              have HR : Hid (R = false) := HQ.out (rowOk_no hlt (by rw [stepOk_succ hlt]; simp [itemFine, hF]))
              clear hF hA hK
              go_quiet (first | (go_at_call 60; with_reducible refine Calls.quiet_of_same (n1'.out _)) | fail)
              go_wp2
              go_ret
              exact ⟨by rw [HR.out]; rfl, below_drewN B2.out _⟩
            · have hB' : decide ((20 : Int) < (li[j + 1].val.size : Int)) = false := by simpa using hB
              have hF : (li[j + 1].val.size : Int) ≤ 20 := by omega
              have m2 := fun w => l01In_any li[j + 1].ver 1 1000000000 w
              cases hV : within li[j + 1].ver 1 1000000000 with
              | false =>
                rw [hV] at m2
                have n2' := hid m2
                clear m2
                have HR : Hid (R = false) := HQ.out (rowOk_no hlt (by rw [stepOk_succ hlt]; simp [itemFine, hV]))
                clear hV hA hK hF
                go_quiet (first | (go_at_call 60; with_reducible refine Calls.quiet_of_same (n1'.out _)) | (go_at_call 60; with_reducible refine Calls.quiet_of_same (n2'.out _)) | fail)
                go_wp2
                go_ret
                exact ⟨by rw [HR.out]; rfl, below_drewN B2.out _⟩
              | true =>
                rw [hV] at m2
                have n2' := hid m2
                clear m2
                have ST : Hid (stepOk itemFine keyLt li (j + 1) = true) := by show _ = _; rw [stepOk_succ hlt]; simp [itemFine, hA, hK, hF, hV]
                clear hV hA hK hF
                go_quiet (first | (go_at_call 60; with_reducible refine Calls.quiet_of_same (n1'.out _)) | (go_at_call 60; with_reducible refine Calls.quiet_of_same (n2'.out _)) | fail)
                go_wp2
                go_roundg g
                case measure => omega
                case rel => exact ⟨j + 1 + 1, by omega, by go_num, below_drewN B2.out _, X2, (fun i hi => by
                  rcases Nat.lt_or_ge i (j + 1) with h | h
                  · exact RT.out i h
                  · obtain rfl : i = j + 1 := by omega
                    exact ST.out)⟩
end Go.Proofs.YtihgkocfgjihhaaGreatDoor

namespace Go.Proofs.YtihgkocfgjihhaaGreatDoor
open Go.RowKit

theorem varS_info5 : (Tryz.prog.info? 5).map (fun i => (i.zero, i.size, i.bytes)) = some (some (.int .u8 0), 1, 1) := by kernel_rfl

set_option maxHeartbeats 400000 in
set_option maxRecDepth 1000000 in
theorem l01Var_any (n : Nat) (hn : n ≤ 1000000000000) (w : World) :
    Calls Tryz.prog 56 #[.int .i64 n] w fun e w' => e = .returned (.string ⟨(vb n).toArray⟩) ∧ Below w.heap.size w w' := by
  obtain ⟨i0, hi, hz0, hz1, hz2⟩ := info_parts varS_info5
  go_enter Tryz.func56, Tryz.ntmps56
  go_wp2
  go_loopw [0, 3] (fun x v wr => ∃ (m : Nat) (acc : List UInt8), m ≤ n ∧ x = .int .i64 m ∧ acc ++ vb m = vb n ∧ wr.ownsRow w.heap.size 5 1 v acc.length (cs acc) ∧ Below w.heap.size w wr) (fun x _ _ => (intOf x).toNat)
  case atStart => exact ⟨n, [], Nat.le_refl _, rfl, rfl, World.ownsRow_made w #[] 0 (Nat.le_refl _) (Nat.zero_le _) rfl, (Below.refl _ _).alloc (Nat.le_refl _) _⟩
  case round =>
    obtain ⟨m, acc, hm, rfl, hacc, hown, hb⟩ := hrel
    have hlen : acc.length + (vb m).length ≤ n + 1 := by rw [← List.length_append, hacc]; exact vb_le n
    have hp := vb_pos m
    have HA : Hid (acc ++ vb m = vb n) := hacc
    clear hacc
    have hsz := hb.size
    by_cases hlt : 127 < m
    · go_wp2_with (at_builtin; refine wpList_append_own _ rfl (.tmp 7) (.tmp 12) 112 rfl w.heap.size 5 i0 (.int .u8 0) 1 1 Tryz.underlying112 hi hz0 hz1 hz2 rfl (by decide) _ _ _ rfl (hown.alloc _) ⟨wr.heap.size, 0, none⟩ 1 1 [.int .u8 ((m : Int) % 128 + 128)] rfl rfl ?c1 ?c2 ?c3 ?c4 ?c5 ?_)
      case c1 => intro j u hj; match j, hj with | 0, hj => simp at hj; subst hj; simp [Addr.add]
      case c2 => intro u hu; simp at hu; subst hu; rfl
      case c3 => unfold maxLen; omega
      case c4 => omega
      case c5 => simp; omega
      intro v' w1 hown' hgrow _
      have R := var_step hlt HA.out hown hown' hgrow hb
      clear hown' hgrow hown hb
      go_wp2
      go_roundw
      case rel => exact ⟨m / 128, acc ++ [UInt8.ofNat (m % 128 + 128)], by omega, by go_num, R.1, R.2.1, R.2.2⟩
      case measure => simp [intOf]; omega
    · go_wp2_with (at_builtin; refine wpList_append_own _ rfl (.tmp 16) (.tmp 19) 112 rfl w.heap.size 5 i0 (.int .u8 0) 1 1 Tryz.underlying112 hi hz0 hz1 hz2 rfl (by decide) _ _ _ rfl (hown.alloc _) ⟨wr.heap.size, 0, none⟩ 1 1 [.int .u8 (m : Int)] rfl rfl ?d1 ?d2 ?d3 ?d4 ?d5 ?_)
      case d1 => intro j u hj; match j, hj with | 0, hj => simp at hj; subst hj; simp [Addr.add]
      case d2 => intro u hu; simp at hu; subst hu; rfl
      case d3 => unfold maxLen; omega
      case d4 => omega
      case d5 => simp; omega
      intro v' w1 hown' hgrow _
      have R := var_end (by omega) HA.out hown hown' hgrow hb
      have hcv := text_of_row (P := Tryz.prog) Tryz.underlying112 Tryz.underlying5 Tryz.underlying9 R.1
      clear hown' hgrow hown hb
      go_wp2
      go_ret
      exact ⟨rfl, R.2⟩

end Go.Proofs.YtihgkocfgjihhaaGreatDoor

namespace Go.Proofs.YtihgkocfgjihhaaGreatDoor
open Go.RowKit

theorem vbs (n : Nat) (h : n ≤ 1000000000) : (⟨(vb n).toArray⟩ : ByteArray).size ≤ 5 := by
  have := vb_len h
  show (vb n).toArray.size ≤ 5
  simpa using this

set_option maxRecDepth 1000000 in
theorem l16Short_any (s : ByteArray) (hs : s.size ≤ 1000) (w : World) :
    Calls Tryz.prog 115 #[.string s] w fun e w' => e = .returned (.string (⟨(vb s.size).toArray⟩ ++ s)) ∧ Below w.heap.size w w' := by
  have cV := hid (l01Var_any s.size (by omega))
  have hv := vbs s.size (by omega)
  obtain ⟨V, hV⟩ : ∃ V : ByteArray, ⟨(vb s.size).toArray⟩ = V := ⟨_, rfl⟩
  rw [hV] at cV hv ⊢
  clear hV
  go_enter Tryz.func115, Tryz.ntmps115
  go_wp2_with (go_at_call 56; refine (cV.out _).mono ?_; rintro e w1 ⟨rfl, b1⟩)
  go_ret
  exact ⟨rfl, b1⟩
end Go.Proofs.YtihgkocfgjihhaaGreatDoor
