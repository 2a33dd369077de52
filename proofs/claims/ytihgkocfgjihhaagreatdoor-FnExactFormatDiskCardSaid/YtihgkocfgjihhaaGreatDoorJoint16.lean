/-
  The walks of impl.sessionsOk, impl.itemsOk.
  The walk of impl.KeepOk: a keep that is right.
-/
import Derived.Test.YtihgkocfgjihhaaGreatDoorJoint15
import Derived.Laws.Cover1
import Derived.Deep.LoopGhost
namespace Go.Proofs.YtihgkocfgjihhaaGreatDoor
open Go.RowKit Go.Sort

set_option maxRecDepth 1000000 in
set_option maxHeartbeats 4000000 in
theorem sessionsOk_any (ao : Option Addr) (ls : List SessionD) (ac : Nat) (hl : ls.length ≤ 1048576) (w : World) (ha : SessionsAt w ao ls) :
    Calls Tryz.prog 117 #[.slice ao ls.length ac] w fun e w' => e = .returned (.bool (sessionsRight ls)) ∧ Below w.heap.size w w' := by
  have HI := hid ha
  obtain ⟨R, hR⟩ : ∃ R, sessionsRight ls = R := ⟨_, rfl⟩
  rw [hR]
  have HQ : Hid (rowOk sessionFine tokenLt ls = false → R = false) := by show _ → _; intro h; rw [← hR, sessionsRight, h]; simp
  have HT : Hid (rowOk sessionFine tokenLt ls = true → R = decide ((ls.length : Int) ≤ 3)) := by show _ → _; intro h; rw [← hR, sessionsRight, h]; simp
  clear ha hR
  go_enter Tryz.func117, Tryz.ntmps117
  go_wp2
  go_loopg [7] ls.length (fun g i wr => ∃ (k : Nat), k + g = ls.length ∧ i = .int .i64 k ∧ Hid (Below w.heap.size w wr) ∧ Hid (∀ i, i < k → stepOk sessionFine tokenLt ls i = true))
  case atStart => exact ⟨0, by omega, rfl, (show Below _ _ _ from Below.refl _ _), (show ∀ i, i < 0 → _ from fun i hi => absurd hi (by omega))⟩
  case round =>
    obtain ⟨k, hkg, rfl, BR, RT⟩ := hrel
    cases gk with
    | zero =>
      have hlt : ¬ (k : Int) < (ls.length : Int) := by omega
      have HR := hid (HT.out (rowOk_yes fun j hj => RT.out j (by omega)))
      go_wp2
      go_ret
      exact ⟨by rw [HR.out]; rfl, BR.out⟩
    | succ g =>
      have hlt : k < ls.length := by omega
      have hlt' : (k : Int) < (ls.length : Int) := by omega
      have hne : ls ≠ [] := by intro e; rw [e] at hlt; simp at hlt
      obtain ⟨b, off, rfl, hc⟩ := HI.out.on BR.out hne
      obtain ⟨x0, x1, x2⟩ := hc k hlt
      have HC := hid hc
      clear hc
      go_wp2
      generalize hW2 : wr.alloc (.cells #[.int .i64 ls[k].token, .int .i64 ls[k].last, .string ls[k].reply] 121) = W2
      have hb2 : Below wr.heap.size wr W2 := by rw [← hW2]; exact below_more (Below.refl _ wr) _
      have hx2 : BlockIs W2 wr.heap.size 121 [.int .i64 ls[k].token, .int .i64 ls[k].last, .string ls[k].reply] := by rw [← hW2]; exact heap_alloc_new wr _
      have n0 := cell_regrown (hx2.cell (j := 0) rfl)
      have n1 := cell_regrown (hx2.cell (j := 1) rfl)
      have n2 := cell_regrown (hx2.cell (j := 2) rfl)
      have B2 := hid (below_via BR.out hb2)
      have m1 := fun d os => Calls.regrown_of (w := W2) (d := d) (os := os) (sessionOk_any ls[k] _)
      clear hW2 hx2 x0 x1 x2
      cases k with
      | zero =>
        cases hA : sessionFine ls[0] with
        | false =>
          rw [hA] at m1
          have N := hid m1
          have HR : Hid (R = false) := HQ.out (rowOk_no hlt (by rw [stepOk_zero hlt, hA]))
          clear m1 hA
          refine wp_region_quiet_below (by kernel_rfl) (by kernel_rfl) ?_
          repeat (go_big_quiet_step (first | (go_at_call 160; exact N.out _ _) | fail))
          refine wpQuiet_nil ?_
          intro _ hw'
          obtain ⟨⟨dq, osq⟩, hw''⟩ := hw'
          subst hw''
          have B3 := hid (below_via B2.out (below_regrown W2 dq osq))
          generalize Go.Sort.grow (redrawn W2 dq) osq = w3 at B3 ⊢
          clear N n0 n1 n2
          go_wp2
          go_ret
          exact ⟨by rw [HR.out]; rfl, B3.out⟩
        | true =>
          rw [hA] at m1
          have N := hid m1
          have ST : Hid (stepOk sessionFine tokenLt ls 0 = true) := by show _ = _; rw [stepOk_zero hlt, hA]
          clear m1 hA
          refine wp_region_quiet_below (by kernel_rfl) (by kernel_rfl) ?_
          repeat (go_big_quiet_step (first | (go_at_call 160; exact N.out _ _) | fail))
          refine wpQuiet_nil ?_
          intro _ hw'
          obtain ⟨⟨dq, osq⟩, hw''⟩ := hw'
          subst hw''
          have B3 := hid (below_via B2.out (below_regrown W2 dq osq))
          generalize Go.Sort.grow (redrawn W2 dq) osq = w3 at B3 ⊢
          clear N n0 n1 n2
          go_wp2
          go_roundg g
          case measure => omega
          case rel => exact ⟨1, by omega, by go_num, B3, (fun i hi => by
            rcases Nat.lt_or_ge i (0) with h | h
            · exact RT.out i h
            · obtain rfl : i = 0 := by omega
              exact ST.out)⟩
      | succ j =>
        have hj : j < ls.length := by omega
        have p0 := cell_regrown ((hb2.cell (p := ⟨b, off + j * 3, none⟩) (World.block_lt_of_cell? wr _ (HC.out j hj).1)).trans (HC.out j hj).1)
        have hpos : (0 : Int) < (((j + 1 : Nat)) : Int) := by omega
        have hsub : (((j + 1 : Nat)) : Int) - 1 = (j : Int) := by omega
        have hjl : (j : Int) < (ls.length : Int) := by omega
        have hwj : IntKind.i64.wrap (j : Int) = (j : Int) := by rw [IntKind.wrap_i64]; omega
        cases hA : sessionFine ls[j + 1] with
        | false =>
          rw [hA] at m1
          have N := hid m1
          have HR : Hid (R = false) := HQ.out (rowOk_no hlt (by rw [stepOk_succ hlt, hA]; rfl))
          clear m1 hA
          refine wp_region_quiet_below (by kernel_rfl) (by kernel_rfl) ?_
          repeat (go_big_quiet_step (first | (go_at_call 160; exact N.out _ _) | fail))
          refine wpQuiet_nil ?_
          intro _ hw'
          obtain ⟨⟨dq, osq⟩, hw''⟩ := hw'
          subst hw''
          have B3 := hid (below_via B2.out (below_regrown W2 dq osq))
          generalize Go.Sort.grow (redrawn W2 dq) osq = w3 at B3 ⊢
          clear N n0 n1 n2 p0
          go_wp2
          go_ret
          exact ⟨by rw [HR.out]; rfl, B3.out⟩
        | true =>
          rw [hA] at m1
          have N := hid m1
          by_cases hL : ls[j + 1].token ≤ ls[j].token
          · have hL' : decide (ls[j + 1].token ≤ ls[j].token) = true := by simpa using hL
            have hK : tokenLt ls[j] ls[j + 1] = false := by simp [tokenLt]; omega
            have HR : Hid (R = false) := HQ.out (rowOk_no hlt (by rw [stepOk_succ hlt, hK, Bool.and_false]))
            clear m1 hA hK
            refine wp_region_quiet_below (by kernel_rfl) (by kernel_rfl) ?_
            repeat (go_big_quiet_step (first | (go_at_call 160; exact N.out _ _) | fail))
            refine wpQuiet_nil ?_
            intro _ hw'
            obtain ⟨⟨dq, osq⟩, hw''⟩ := hw'
            subst hw''
            have B3 := hid (below_via B2.out (below_regrown W2 dq osq))
            generalize Go.Sort.grow (redrawn W2 dq) osq = w3 at B3 ⊢
            clear N n0 n1 n2 p0
            go_wp2
            go_ret
            exact ⟨by rw [HR.out]; rfl, B3.out⟩
          · have hL' : decide (ls[j + 1].token ≤ ls[j].token) = false := by simpa using hL
            have hK : tokenLt ls[j] ls[j + 1] = true := by simp [tokenLt]; omega
            have ST : Hid (stepOk sessionFine tokenLt ls (j + 1) = true) := by show _ = _; rw [stepOk_succ hlt, hA, hK]; rfl
            clear m1 hA hK
            refine wp_region_quiet_below (by kernel_rfl) (by kernel_rfl) ?_
            repeat (go_big_quiet_step (first | (go_at_call 160; exact N.out _ _) | fail))
            refine wpQuiet_nil ?_
            intro _ hw'
            obtain ⟨⟨dq, osq⟩, hw''⟩ := hw'
            subst hw''
            have B3 := hid (below_via B2.out (below_regrown W2 dq osq))
            generalize Go.Sort.grow (redrawn W2 dq) osq = w3 at B3 ⊢
            clear N n0 n1 n2 p0
            go_wp2
            go_roundg g
            case measure => omega
            case rel => exact ⟨j + 1 + 1, by omega, by go_num, B3, (fun i hi => by
              rcases Nat.lt_or_ge i (j + 1) with h | h
              · exact RT.out i h
              · obtain rfl : i = j + 1 := by omega
                exact ST.out)⟩

set_option maxRecDepth 1000000 in
set_option maxHeartbeats 4000000 in
theorem itemsOk_any (ao : Option Addr) (li : List ItemD) (ac : Nat) (hl : li.length ≤ 1048576) (w : World) (ha : ItemsAt w ao li) :
    Calls Tryz.prog 118 #[.slice ao li.length ac] w fun e w' => e = .returned (.bool (itemsRight li)) ∧ Below w.heap.size w w' := by
  have HI := hid ha
  obtain ⟨R, hR⟩ : ∃ R, itemsRight li = R := ⟨_, rfl⟩
  rw [hR]
  have HQ : Hid (rowOk itemFine keyLt li = false → R = false) := by show _ → _; intro h; rw [← hR, itemsRight, h]; simp
  have HT : Hid (rowOk itemFine keyLt li = true → R = decide ((li.length : Int) ≤ 8)) := by show _ → _; intro h; rw [← hR, itemsRight, h]; simp
  clear ha hR
  go_enter Tryz.func118, Tryz.ntmps118
  go_wp2
  go_loopg [7] li.length (fun g i wr => ∃ (k : Nat), k + g = li.length ∧ i = .int .i64 k ∧ Hid (Below w.heap.size w wr) ∧ Hid (∀ i, i < k → stepOk itemFine keyLt li i = true))
  case atStart => exact ⟨0, by omega, rfl, (show Below _ _ _ from Below.refl _ _), (show ∀ i, i < 0 → _ from fun i hi => absurd hi (by omega))⟩
  case round =>
    obtain ⟨k, hkg, rfl, BR, RT⟩ := hrel
    cases gk with
    | zero =>
      have hlt : ¬ (k : Int) < (li.length : Int) := by omega
      have HR := hid (HT.out (rowOk_yes fun j hj => RT.out j (by omega)))
      go_wp2
      go_ret
      exact ⟨by rw [HR.out]; rfl, BR.out⟩
    | succ g =>
      have hlt : k < li.length := by omega
      have hlt' : (k : Int) < (li.length : Int) := by omega
      have hne : li ≠ [] := by intro e; rw [e] at hlt; simp at hlt
      obtain ⟨b, off, rfl, hc⟩ := HI.out.on BR.out hne
      obtain ⟨x0, x1, x2⟩ := hc k hlt
      have HC := hid hc
      clear hc
      go_wp2
      generalize hW2 : wr.alloc (.cells #[.string li[k].key, .string li[k].val, .int .i64 li[k].ver] 124) = W2
      have hb2 : Below wr.heap.size wr W2 := by rw [← hW2]; exact below_more (Below.refl _ wr) _
      have hx2 : BlockIs W2 wr.heap.size 124 [.string li[k].key, .string li[k].val, .int .i64 li[k].ver] := by rw [← hW2]; exact heap_alloc_new wr _
      have n0 := cell_regrown (hx2.cell (j := 0) rfl)
      have n1 := cell_regrown (hx2.cell (j := 1) rfl)
      have n2 := cell_regrown (hx2.cell (j := 2) rfl)
      have B2 := hid (below_via BR.out hb2)
      have m1 := fun d os => Calls.regrown_of (w := W2) (d := d) (os := os) (itemOk_any li[k] _)
      clear hW2 hx2 x0 x1 x2
      cases k with
      | zero =>
        cases hA : itemFine li[0] with
        | false =>
          rw [hA] at m1
          have N := hid m1
          have HR : Hid (R = false) := HQ.out (rowOk_no hlt (by rw [stepOk_zero hlt, hA]))
          clear m1 hA
          refine wp_region_quiet_below (by kernel_rfl) (by kernel_rfl) ?_
          repeat (go_big_quiet_step (first | (go_at_call 161; exact N.out _ _) | fail))
          refine wpQuiet_nil ?_
          intro _ hw'
          obtain ⟨⟨dq, osq⟩, hw''⟩ := hw'
          subst hw''
          have B3 := hid (below_via B2.out (below_regrown W2 dq osq))
          generalize Go.Sort.grow (redrawn W2 dq) osq = w3 at B3 ⊢
          clear N n0 n1 n2
          go_wp2
          go_ret
          exact ⟨by rw [HR.out]; rfl, B3.out⟩
        | true =>
          rw [hA] at m1
          have N := hid m1
          have ST : Hid (stepOk itemFine keyLt li 0 = true) := by show _ = _; rw [stepOk_zero hlt, hA]
          clear m1 hA
          refine wp_region_quiet_below (by kernel_rfl) (by kernel_rfl) ?_
          repeat (go_big_quiet_step (first | (go_at_call 161; exact N.out _ _) | fail))
          refine wpQuiet_nil ?_
          intro _ hw'
          obtain ⟨⟨dq, osq⟩, hw''⟩ := hw'
          subst hw''
          have B3 := hid (below_via B2.out (below_regrown W2 dq osq))
          generalize Go.Sort.grow (redrawn W2 dq) osq = w3 at B3 ⊢
          clear N n0 n1 n2
          go_wp2
          go_roundg g
          case measure => omega
          case rel => exact ⟨1, by omega, by go_num, B3, (fun i hi => by
            rcases Nat.lt_or_ge i (0) with h | h
            · exact RT.out i h
            · obtain rfl : i = 0 := by omega
              exact ST.out)⟩
      | succ j =>
        have hj : j < li.length := by omega
        have p0 := cell_regrown ((hb2.cell (p := ⟨b, off + j * 3, none⟩) (World.block_lt_of_cell? wr _ (HC.out j hj).1)).trans (HC.out j hj).1)
        have hpos : (0 : Int) < (((j + 1 : Nat)) : Int) := by omega
        have hsub : (((j + 1 : Nat)) : Int) - 1 = (j : Int) := by omega
        have hjl : (j : Int) < (li.length : Int) := by omega
        have hwj : IntKind.i64.wrap (j : Int) = (j : Int) := by rw [IntKind.wrap_i64]; omega
        cases hA : itemFine li[j + 1] with
        | false =>
          rw [hA] at m1
          have N := hid m1
          have HR : Hid (R = false) := HQ.out (rowOk_no hlt (by rw [stepOk_succ hlt, hA]; rfl))
          clear m1 hA
          refine wp_region_quiet_below (by kernel_rfl) (by kernel_rfl) ?_
          repeat (go_big_quiet_step (first | (go_at_call 161; exact N.out _ _) | fail))
          refine wpQuiet_nil ?_
          intro _ hw'
          obtain ⟨⟨dq, osq⟩, hw''⟩ := hw'
          subst hw''
          have B3 := hid (below_via B2.out (below_regrown W2 dq osq))
          generalize Go.Sort.grow (redrawn W2 dq) osq = w3 at B3 ⊢
          clear N n0 n1 n2 p0
          go_wp2
          go_ret
          exact ⟨by rw [HR.out]; rfl, B3.out⟩
        | true =>
          rw [hA] at m1
          have N := hid m1
          cases hL : Op.bytesLess li[j].key.toList li[j + 1].key.toList with
          | false =>
            have hK : keyLt li[j] li[j + 1] = false := hL
            have HR : Hid (R = false) := HQ.out (rowOk_no hlt (by rw [stepOk_succ hlt, hK, Bool.and_false]))
            clear m1 hA hK
            refine wp_region_quiet_below (by kernel_rfl) (by kernel_rfl) ?_
            repeat (go_big_quiet_step (first | (go_at_call 161; exact N.out _ _) | fail))
            refine wpQuiet_nil ?_
            intro _ hw'
            obtain ⟨⟨dq, osq⟩, hw''⟩ := hw'
            subst hw''
            have B3 := hid (below_via B2.out (below_regrown W2 dq osq))
            generalize Go.Sort.grow (redrawn W2 dq) osq = w3 at B3 ⊢
            clear N n0 n1 n2 p0
            go_wp2
            go_ret
            exact ⟨by rw [HR.out]; rfl, B3.out⟩
          | true =>
            have hK : keyLt li[j] li[j + 1] = true := hL
            have ST : Hid (stepOk itemFine keyLt li (j + 1) = true) := by show _ = _; rw [stepOk_succ hlt, hA, hK]; rfl
            clear m1 hA hK
            refine wp_region_quiet_below (by kernel_rfl) (by kernel_rfl) ?_
            repeat (go_big_quiet_step (first | (go_at_call 161; exact N.out _ _) | fail))
            refine wpQuiet_nil ?_
            intro _ hw'
            obtain ⟨⟨dq, osq⟩, hw''⟩ := hw'
            subst hw''
            have B3 := hid (below_via B2.out (below_regrown W2 dq osq))
            generalize Go.Sort.grow (redrawn W2 dq) osq = w3 at B3 ⊢
            clear N n0 n1 n2 p0
            go_wp2
            go_roundg g
            case measure => omega
            case rel => exact ⟨j + 1 + 1, by omega, by go_num, B3, (fun i hi => by
              rcases Nat.lt_or_ge i (j + 1) with h | h
              · exact RT.out i h
              · obtain rfl : i = j + 1 := by omega
                exact ST.out)⟩

end Go.Proofs.YtihgkocfgjihhaaGreatDoor

namespace Go.Proofs.YtihgkocfgjihhaaGreatDoor
open Go.RowKit

set_option maxRecDepth 1000000 in
set_option maxHeartbeats 1000000 in
theorem implKeepOk_any (ao bo : Option Addr) (ls : List SessionD) (li : List ItemD) (ac bc : Nat) (hl : ls.length ≤ 1048576) (hl' : li.length ≤ 1048576) (w : World) (ha : SessionsAt w ao ls) (hi : ItemsAt w bo li) :
    Calls Tryz.prog 66 #[.agg #[.slice ao ls.length ac, .slice bo li.length bc]] w fun e w' => e = .returned (.bool (keepOk ls li)) ∧ Below w.heap.size w w' := by
  have HI := hid hi
  have HB := hid (below_more (Below.refl w.heap.size w) (.cells #[.slice ao ls.length ac, .slice bo li.length bc] 67))
  have HX := hid (show BlockIs (w.alloc (.cells #[.slice ao ls.length ac, .slice bo li.length bc] 67)) w.heap.size 67 [.slice ao ls.length ac, .slice bo li.length bc] from heap_alloc_new w _)
  have C := hid (fun w ha => sessionsOk_any ao ls ac hl w ha)
  have D := hid (fun w hi => itemsOk_any bo li bc hl' w hi)
  have HA := hid ha
  clear ha hi
  go_enter Tryz.func66, Tryz.ntmps66
  go_wp2_with fail
  refine (C.out _ (HA.out.on HB.out)).mono ?_
  rintro e w1 ⟨rfl, b1⟩
  have B1 := hid (below_via HB.out b1)
  have c1 := (HX.out.on b1 HX.out.lt).cell (j := 1) rfl
  clear b1
  cases hs : sessionsRight ls with
  | false =>
    have HR : Hid (keepOk ls li = false) := by show _ = _; rw [keepOk, hs]; rfl
    clear hs
    go_wp2
    go_ret
    exact ⟨by rw [HR.out]; rfl, B1.out⟩
  | true =>
    have HR : Hid (keepOk ls li = itemsRight li) := by show _ = _; rw [keepOk, hs]; rfl
    clear hs
    go_wp2_with fail
    refine (D.out _ (HI.out.on B1.out)).mono ?_
    rintro e w2 ⟨rfl, b2⟩
    have B2 := hid (below_via B1.out b2)
    clear b2
    go_wp2
    go_ret
    exact ⟨by rw [HR.out]; rfl, B2.out⟩
end Go.Proofs.YtihgkocfgjihhaaGreatDoor
