/-
  The walk of spec.l15Sessions: sessions that are right.
  The walk of spec.KeepOk: a keep that is right.
-/
import Derived.Test.YtoanhjjigbjecaaGreatDoorJoint1
import Derived.Test.YtoanhjjigbjecaaGreatDoorJoint12
import Derived.Test.YtoanhjjigbjecaaGreatDoorRows
import Derived.Deep.QuietTactic
import Derived.BigQuiet
import Derived.Laws.Cover1
import Derived.Deep.LoopGhost
namespace Go.Proofs.YtoanhjjigbjecaaGreatDoor
open Go.RowKit

set_option maxRecDepth 1000000 in
set_option maxHeartbeats 20000000 in
theorem l15Sessions_any (ao : Option Addr) (ls : List SessionD) (ac : Nat) (hl : ls.length ≤ 1048576) (w : World) (ha : SessionsAt w ao ls) :
    Calls Tryz.prog 82 #[.slice ao ls.length ac] w fun e w' => e = .returned (.bool (sessionsRight ls)) ∧ Below w.heap.size w w' := by
  have HI := hid ha
  obtain ⟨R, hR⟩ : ∃ R, sessionsRight ls = R := ⟨_, rfl⟩
  rw [hR]
  have HQ : Hid (rowOk sessionFine tokenLt ls = false → R = false) := by show _ → _; intro h; rw [← hR, sessionsRight, h]; simp
  have HT : Hid (rowOk sessionFine tokenLt ls = true → R = decide ((ls.length : Int) ≤ 3)) := by show _ → _; intro h; rw [← hR, sessionsRight, h]; simp
  have HB : Hid (Below w.heap.size w w) := Below.refl _ _
  have HX : Hid True := trivial
  clear ha hR
  go_enter Tryz.func82, Tryz.ntmps82
  go_wp2
  go_loopg [3, 4] ls.length (fun g i _ wr => ∃ (k : Nat), k + g = ls.length ∧ i = .int .i64 k ∧ Hid (Below w.heap.size w wr) ∧ Hid (True) ∧ Hid (∀ i, i < k → stepOk sessionFine tokenLt ls i = true))
  case atStart => exact ⟨0, by omega, rfl, HB, HX, (show ∀ i, i < 0 → _ from fun i hi => absurd hi (by omega))⟩
  case round =>
    obtain ⟨k, hkg, rfl, BR, XR, RT⟩ := hrel
    clear HB HX
    cases gk with
    | zero =>
      have hlt : ¬ (k : Int) < (ls.length : Int) := by omega
      have HR := hid (HT.out (rowOk_yes fun j hj => RT.out j (by omega)))
      go_wp2
      go_ret
      exact ⟨by rw [HR.out]; rfl, BR.out⟩
    | succ g =>
      have hlt : k < ls.length := by omega
      have hlt' : (k : Int) < (ls.length : Int) := by omega
      have hne : ls ≠ [] := by intro e; rw [e] at hlt; simp at hlt
      obtain ⟨b, off, rfl, hc⟩ := HI.out.on BR.out hne
      obtain ⟨x0, x1, x2⟩ := hc k hlt
      have HC := hid hc
      clear hc
      go_wp2
      generalize hW2 : wr.alloc (.cells #[.int .i64 ls[k].token, .int .i64 ls[k].last, .string ls[k].reply] 86) = W2
      have hb2 : Below wr.heap.size wr W2 := by rw [← hW2]; exact below_more (Below.refl _ wr) _
      have hx2 : BlockIs W2 wr.heap.size 86 [.int .i64 ls[k].token, .int .i64 ls[k].last, .string ls[k].reply] := by rw [← hW2]; exact heap_alloc_new wr _
      have n0 := hx2.cell (j := 0) rfl
      have n1 := hx2.cell (j := 1) rfl
      have n2 := hx2.cell (j := 2) rfl
      have X2 := XR
      have B2 := hid (below_via BR.out hb2)
      clear hW2 hx2 x0 x1 x2
      cases k with
      | zero =>
        have m1 := fun w => l01In_any ls[0].token 1 1000000 w
        cases hA : within ls[0].token 1 1000000 with
        | false =>
          rw [hA] at m1
          have n1' := hid m1
          clear m1
          have HR : Hid (R = false) := HQ.out (rowOk_no hlt (by rw [stepOk_zero hlt]; simp [sessionFine, hA]))
          clear hA
          go_quiet (first | (go_at_call 47; with_reducible refine Calls.quiet_of_same (n1'.out _)) | fail)
          go_wp2
          go_ret
          exact ⟨by rw [HR.out]; rfl, below_drewN B2.out _⟩
        | true =>
          rw [hA] at m1
          have n1' := hid m1
          clear m1
          have m2 := fun w => l01In_any ls[0].last 0 1000000 w
          cases hV : within ls[0].last 0 1000000 with
          | false =>
            rw [hV] at m2
            have n2' := hid m2
            clear m2
            have HR : Hid (R = false) := HQ.out (rowOk_no hlt (by rw [stepOk_zero hlt]; simp [sessionFine, hV]))
            clear hV hA
            go_quiet (first | (go_at_call 47; with_reducible refine Calls.quiet_of_same (n1'.out _)) | (go_at_call 47; with_reducible refine Calls.quiet_of_same (n2'.out _)) | fail)
            go_wp2
            go_ret
            exact ⟨by rw [HR.out]; rfl, below_drewN B2.out _⟩
          | true =>
            rw [hV] at m2
            have n2' := hid m2
            clear m2
            by_cases hB : (40 : Int) < (ls[0].reply.size : Int)
            · have hB' : decide ((40 : Int) < (ls[0].reply.size : Int)) = true := by simpa using hB
              have hF : ¬ (ls[0].reply.size : Int) ≤ 40 := by omega
              have HR : Hid (R = false) := HQ.out (rowOk_no hlt (by rw [stepOk_zero hlt]; simp [sessionFine, hF]))
              clear hF hA hV
              go_quiet (first | (go_at_call 47; with_reducible refine Calls.quiet_of_same (n1'.out _)) | (go_at_call 47; with_reducible refine Calls.quiet_of_same (n2'.out _)) | fail)
              go_wp2
              go_ret
              exact ⟨by rw [HR.out]; rfl, below_drewN B2.out _⟩
            · have hB' : decide ((40 : Int) < (ls[0].reply.size : Int)) = false := by simpa using hB
              have hF : (ls[0].reply.size : Int) ≤ 40 := by omega
              have hse := blank_text ls[0].reply
              by_cases z : ls[0].last = 0
              · have hz : (ls[0].last == 0) = true := by simpa using z
                by_cases y : ls[0].reply.size = 0
                · rw [decide_eq_true y] at hse
                  have ST : Hid (stepOk sessionFine tokenLt ls (0) = true) := by show _ = _; rw [stepOk_zero hlt]; simp [sessionFine, hA, hV, y]
                  clear z y hA hV hF
                  go_quiet (first | (go_at_call 47; with_reducible refine Calls.quiet_of_same (n1'.out _)) | (go_at_call 47; with_reducible refine Calls.quiet_of_same (n2'.out _)) | fail)
                  go_wp2
                  go_roundg g
                  case measure => omega
                  case rel => exact ⟨1, by omega, by go_num, below_drewN B2.out _, X2, (fun i hi => by
                    rcases Nat.lt_or_ge i (0) with h | h
                    · exact RT.out i h
                    · obtain rfl : i = 0 := by omega
                      exact ST.out)⟩
                · rw [decide_eq_false y] at hse
                  have HR : Hid (R = false) := HQ.out (rowOk_no hlt (by rw [stepOk_zero hlt]; simp [sessionFine, z, y]))
                  clear z y hA hV hF
                  go_quiet (first | (go_at_call 47; with_reducible refine Calls.quiet_of_same (n1'.out _)) | (go_at_call 47; with_reducible refine Calls.quiet_of_same (n2'.out _)) | fail)
                  go_wp2
                  go_ret
                  exact ⟨by rw [HR.out]; rfl, below_drewN B2.out _⟩
              · have hz : (ls[0].last == 0) = false := by simpa using z
                have ST : Hid (stepOk sessionFine tokenLt ls (0) = true) := by show _ = _; rw [stepOk_zero hlt]; simp [sessionFine, hA, hV, hF, z]
                clear z hA hV hF
                go_quiet (first | (go_at_call 47; with_reducible refine Calls.quiet_of_same (n1'.out _)) | (go_at_call 47; with_reducible refine Calls.quiet_of_same (n2'.out _)) | fail)
                go_wp2
                go_roundg g
                case measure => omega
                case rel => exact ⟨1, by omega, by go_num, below_drewN B2.out _, X2, (fun i hi => by
                  rcases Nat.lt_or_ge i (0) with h | h
                  · exact RT.out i h
                  · obtain rfl : i = 0 := by omega
                    exact ST.out)⟩
      | succ j =>
        have hj : j < ls.length := by omega
        have p0 := (hb2.cell (p := ⟨b, off + j * 3, none⟩) (World.block_lt_of_cell? wr _ (HC.out j hj).1)).trans (HC.out j hj).1
        have hpos : (0 : Int) < (((j + 1 : Nat)) : Int) := by omega
        have hsub : (((j + 1 : Nat)) : Int) - 1 = (j : Int) := by omega
        have hjl : (j : Int) < (ls.length : Int) := by omega
        have hwj : IntKind.i64.wrap (j : Int) = (j : Int) := by rw [IntKind.wrap_i64]; omega
        have m1 := fun w => l01In_any ls[j + 1].token 1 1000000 w
        cases hA : within ls[j + 1].token 1 1000000 with
        | false =>
          rw [hA] at m1
          have n1' := hid m1
          clear m1
          have HR : Hid (R = false) := HQ.out (rowOk_no hlt (by rw [stepOk_succ hlt]; simp [sessionFine, hA]))
          clear hA
          go_quiet (first | (go_at_call 47; with_reducible refine Calls.quiet_of_same (n1'.out _)) | fail)
          go_wp2
          go_ret
          exact ⟨by rw [HR.out]; rfl, below_drewN B2.out _⟩
        | true =>
          rw [hA] at m1
          have n1' := hid m1
          clear m1
          by_cases hL : ls[j + 1].token ≤ ls[j].token
          · have hL' : decide (ls[j + 1].token ≤ ls[j].token) = true := by simpa using hL
            have hK : tokenLt ls[j] ls[j + 1] = false := by simp [tokenLt]; omega
            have HR : Hid (R = false) := HQ.out (rowOk_no hlt (by rw [stepOk_succ hlt]; simp [sessionFine, hK]))
            clear hK hA
            go_quiet (first | (go_at_call 47; with_reducible refine Calls.quiet_of_same (n1'.out _)) | fail)
            go_wp2
            go_ret
            exact ⟨by rw [HR.out]; rfl, below_drewN B2.out _⟩
          · have hL' : decide (ls[j + 1].token ≤ ls[j].token) = false := by simpa using hL
            have hK : tokenLt ls[j] ls[j + 1] = true := by simp [tokenLt]; omega
            have m2 := fun w => l01In_any ls[j + 1].last 0 1000000 w
            cases hV : within ls[j + 1].last 0 1000000 with
            | false =>
              rw [hV] at m2
              have n2' := hid m2
              clear m2
              have HR : Hid (R = false) := HQ.out (rowOk_no hlt (by rw [stepOk_succ hlt]; simp [sessionFine, hV]))
              clear hV hA hK
              go_quiet (first | (go_at_call 47; with_reducible refine Calls.quiet_of_same (n1'.out _)) | (go_at_call 47; with_reducible refine Calls.quiet_of_same (n2'.out _)) | fail)
              go_wp2
              go_ret
              exact ⟨by rw [HR.out]; rfl, below_drewN B2.out _⟩
            | true =>
              rw [hV] at m2
              have n2' := hid m2
              clear m2
              by_cases hB : (40 : Int) < (ls[j + 1].reply.size : Int)
              · have hB' : decide ((40 : Int) < (ls[j + 1].reply.size : Int)) = true := by simpa using hB
                have hF : ¬ (ls[j + 1].reply.size : Int) ≤ 40 := by omega
                have HR : Hid (R = false) := HQ.out (rowOk_no hlt (by rw [stepOk_succ hlt]; simp [sessionFine, hF]))
                clear hF hA hK hV
                go_quiet (first | (go_at_call 47; with_reducible refine Calls.quiet_of_same (n1'.out _)) | (go_at_call 47; with_reducible refine Calls.quiet_of_same (n2'.out _)) | fail)
                go_wp2
                go_ret
                exact ⟨by rw [HR.out]; rfl, below_drewN B2.out _⟩
              · have hB' : decide ((40 : Int) < (ls[j + 1].reply.size : Int)) = false := by simpa using hB
                have hF : (ls[j + 1].reply.size : Int) ≤ 40 := by omega
                have hse := blank_text ls[j + 1].reply
                by_cases z : ls[j + 1].last = 0
                · have hz : (ls[j + 1].last == 0) = true := by simpa using z
                  by_cases y : ls[j + 1].reply.size = 0
                  · rw [decide_eq_true y] at hse
                    have ST : Hid (stepOk sessionFine tokenLt ls (j + 1) = true) := by show _ = _; rw [stepOk_succ hlt]; simp [sessionFine, hA, hK, hV, y]
                    clear z y hA hK hV hF
                    go_quiet (first | (go_at_call 47; with_reducible refine Calls.quiet_of_same (n1'.out _)) | (go_at_call 47; with_reducible refine Calls.quiet_of_same (n2'.out _)) | fail)
                    go_wp2
                    go_roundg g
                    case measure => omega
                    case rel => exact ⟨j + 1 + 1, by omega, by go_num, below_drewN B2.out _, X2, (fun i hi => by
                      rcases Nat.lt_or_ge i (j + 1) with h | h
                      · exact RT.out i h
                      · obtain rfl : i = j + 1 := by omega
                        exact ST.out)⟩
                  · rw [decide_eq_false y] at hse
                    have HR : Hid (R = false) := HQ.out (rowOk_no hlt (by rw [stepOk_succ hlt]; simp [sessionFine, z, y]))
                    clear z y hA hK hV hF
                    go_quiet (first | (go_at_call 47; with_reducible refine Calls.quiet_of_same (n1'.out _)) | (go_at_call 47; with_reducible refine Calls.quiet_of_same (n2'.out _)) | fail)
                    go_wp2
                    go_ret
                    exact ⟨by rw [HR.out]; rfl, below_drewN B2.out _⟩
                · have hz : (ls[j + 1].last == 0) = false := by simpa using z
                  have ST : Hid (stepOk sessionFine tokenLt ls (j + 1) = true) := by show _ = _; rw [stepOk_succ hlt]; simp [sessionFine, hA, hK, hV, hF, z]
                  clear z hA hK hV hF
                  go_quiet (first | (go_at_call 47; with_reducible refine Calls.quiet_of_same (n1'.out _)) | (go_at_call 47; with_reducible refine Calls.quiet_of_same (n2'.out _)) | fail)
                  go_wp2
                  go_roundg g
                  case measure => omega
                  case rel => exact ⟨j + 1 + 1, by omega, by go_num, below_drewN B2.out _, X2, (fun i hi => by
                    rcases Nat.lt_or_ge i (j + 1) with h | h
                    · exact RT.out i h
                    · obtain rfl : i = j + 1 := by omega
                      exact ST.out)⟩
end Go.Proofs.YtoanhjjigbjecaaGreatDoor

namespace Go.Proofs.YtoanhjjigbjecaaGreatDoor
open Go.RowKit

set_option maxRecDepth 1000000 in
set_option maxHeartbeats 20000000 in
theorem specKeepOk_any (ao bo : Option Addr) (ls : List SessionD) (li : List ItemD) (ac bc : Nat) (hl : ls.length ≤ 1048576) (hl' : li.length ≤ 1048576) (w : World) (ha : SessionsAt w ao ls) (hi : ItemsAt w bo li) :
    Calls Tryz.prog 49 #[.agg #[.slice ao ls.length ac, .slice bo li.length bc]] w fun e w' => e = .returned (.bool (keepOk ls li)) ∧ Below w.heap.size w w' := by
  have HI := hid hi
  have HA := hid ha
  have CS := hid (fun w ha => l15Sessions_any ao ls ac hl w ha)
  have HB := hid (below_more (Below.refl w.heap.size w) (.cells #[.slice ao ls.length ac, .slice bo li.length bc] 56))
  have HX := hid (show BlockIs (w.alloc (.cells #[.slice ao ls.length ac, .slice bo li.length bc] 56)) w.heap.size 56 [.slice ao ls.length ac, .slice bo li.length bc] from heap_alloc_new w _)
  obtain ⟨R, hR⟩ : ∃ R, keepOk ls li = R := ⟨_, rfl⟩
  rw [hR]
  have HQ : Hid (rowOk itemFine keyLt li = false → R = false) := by show _ → _; intro h; rw [← hR, keepOk, itemsRight, h]; simp
  have HT : Hid (rowOk itemFine keyLt li = true → R = (sessionsRight ls && decide ((li.length : Int) ≤ 8))) := by show _ → _; intro h; rw [← hR, keepOk, itemsRight, h]; simp
  clear ha hi hR
  go_enter Tryz.func49, Tryz.ntmps49
  go_wp2
  go_loopg [3, 4] li.length (fun g i _ wr => ∃ (k : Nat), k + g = li.length ∧ i = .int .i64 k ∧ Hid (Below w.heap.size w wr) ∧ Hid (BlockIs wr w.heap.size 56 [.slice ao ls.length ac, .slice bo li.length bc]) ∧ Hid (∀ i, i < k → stepOk itemFine keyLt li i = true))
  case atStart => exact ⟨0, by omega, rfl, HB, HX, (show ∀ i, i < 0 → _ from fun i hi => absurd hi (by omega))⟩
  case round =>
    obtain ⟨k, hkg, rfl, BR, XR, RT⟩ := hrel
    clear HB HX
    have c1 := XR.out.cell (j := 1) rfl
    have c0 := XR.out.cell (j := 0) rfl
    cases gk with
    | zero =>
      have hlt : ¬ (k : Int) < (li.length : Int) := by omega
      have HR := hid (HT.out (rowOk_yes fun j hj => RT.out j (by omega)))
      go_wp2_with fail
      refine (CS.out _ (HA.out.on BR.out)).mono ?_
      rintro e w3 ⟨rfl, b3⟩
      have c1 := (XR.out.on b3 XR.out.lt).cell (j := 1) rfl
      have B3 := hid (below_via BR.out b3)
      cases hs : sessionsRight ls with
      | false =>
        rw [hs] at HR
        have HR := hid HR.out
        clear b3 hs
        go_wp2
        go_ret
        exact ⟨by rw [HR.out]; rfl, B3.out⟩
      | true =>
        rw [hs] at HR
        have HR := hid HR.out
        clear b3 hs
        go_wp2
        go_ret
        exact ⟨by rw [HR.out]; rfl, B3.out⟩
    | succ g =>
      have hlt : k < li.length := by omega
      have hlt' : (k : Int) < (li.length : Int) := by omega
      have hne : li ≠ [] := by intro e; rw [e] at hlt; simp at hlt
      obtain ⟨b, off, rfl, hc⟩ := HI.out.on BR.out hne
      obtain ⟨x0, x1, x2⟩ := hc k hlt
      have HC := hid hc
      clear hc
      go_wp2
      generalize hW2 : wr.alloc (.cells #[.string li[k].key, .string li[k].val, .int .i64 li[k].ver] 89) = W2
      have hb2 : Below wr.heap.size wr W2 := by rw [← hW2]; exact below_more (Below.refl _ wr) _
      have hx2 : BlockIs W2 wr.heap.size 89 [.string li[k].key, .string li[k].val, .int .i64 li[k].ver] := by rw [← hW2]; exact heap_alloc_new wr _
      have n0 := hx2.cell (j := 0) rfl
      have n1 := hx2.cell (j := 1) rfl
      have n2 := hx2.cell (j := 2) rfl
      have XW := XR.out.on hb2 XR.out.lt
      have d1 := XW.cell (j := 1) rfl
      have X2 := hid XW
      clear XW c0 c1
      have B2 := hid (below_via BR.out hb2)
      clear hW2 hx2 x0 x1 x2
      cases k with
      | zero =>
        have m1 := fun w => l01In_any (li[0].key.size : Int) 1 8 w
        cases hA : within (li[0].key.size : Int) 1 8 with
        | false =>
          rw [hA] at m1
          have n1' := hid m1
          clear m1
          have HR : Hid (R = false) := HQ.out (rowOk_no hlt (by rw [stepOk_zero hlt]; simp [itemFine, hA]))
          clear hA
          go_quiet (first | (go_at_call 47; with_reducible refine Calls.quiet_of_same (n1'.out _)) | fail)
          go_wp2
          go_ret
          exact ⟨by rw [HR.out]; rfl, below_drewN B2.out _⟩
        | true =>
          rw [hA] at m1
          have n1' := hid m1
          clear m1
          by_cases hB : (20 : Int) < (li[0].val.size : Int)
          · have hB' : decide ((20 : Int) < (li[0].val.size : Int)) = true := by simpa using hB
            have hF : ¬ (li[0].val.size : Int) ≤ 20 := by omega
            have HR : Hid (R = false) := HQ.out (rowOk_no hlt (by rw [stepOk_zero hlt]; simp [itemFine, hF]))
            clear hF hA
            go_quiet (first | (go_at_call 47; with_reducible refine Calls.quiet_of_same (n1'.out _)) | fail)
            go_wp2
            go_ret
            exact ⟨by rw [HR.out]; rfl, below_drewN B2.out _⟩
          · have hB' : decide ((20 : Int) < (li[0].val.size : Int)) = false := by simpa using hB
            have hF : (li[0].val.size : Int) ≤ 20 := by omega
            have m2 := fun w => l01In_any li[0].ver 1 1000000000 w
            cases hV : within li[0].ver 1 1000000000 with
            | false =>
              rw [hV] at m2
              have n2' := hid m2
              clear m2
              have HR : Hid (R = false) := HQ.out (rowOk_no hlt (by rw [stepOk_zero hlt]; simp [itemFine, hV]))
              clear hV hA hF
              go_quiet (first | (go_at_call 47; with_reducible refine Calls.quiet_of_same (n1'.out _)) | (go_at_call 47; with_reducible refine Calls.quiet_of_same (n2'.out _)) | fail)
              go_wp2
              go_ret
              exact ⟨by rw [HR.out]; rfl, below_drewN B2.out _⟩
            | true =>
              rw [hV] at m2
              have n2' := hid m2
              clear m2
              have ST : Hid (stepOk itemFine keyLt li (0) = true) := by show _ = _; rw [stepOk_zero hlt]; simp [itemFine, hA, hF, hV]
              clear hV hA hF
              go_quiet (first | (go_at_call 47; with_reducible refine Calls.quiet_of_same (n1'.out _)) | (go_at_call 47; with_reducible refine Calls.quiet_of_same (n2'.out _)) | fail)
              go_wp2
              go_roundg g
              case measure => omega
              case rel => exact ⟨1, by omega, by go_num, below_drewN B2.out _, X2, (fun i hi => by
                rcases Nat.lt_or_ge i (0) with h | h
                · exact RT.out i h
                · obtain rfl : i = 0 := by omega
                  exact ST.out)⟩
      | succ j =>
        have hj : j < li.length := by omega
        have p0 := (hb2.cell (p := ⟨b, off + j * 3, none⟩) (World.block_lt_of_cell? wr _ (HC.out j hj).1)).trans (HC.out j hj).1
        have hpos : (0 : Int) < (((j + 1 : Nat)) : Int) := by omega
        have hsub : (((j + 1 : Nat)) : Int) - 1 = (j : Int) := by omega
        have hjl : (j : Int) < (li.length : Int) := by omega
        have hwj : IntKind.i64.wrap (j : Int) = (j : Int) := by rw [IntKind.wrap_i64]; omega
        have m1 := fun w => l01In_any (li[j + 1].key.size : Int) 1 8 w
        cases hA : within (li[j + 1].key.size : Int) 1 8 with
        | false =>
          rw [hA] at m1
          have n1' := hid m1
          clear m1
          have HR : Hid (R = false) := HQ.out (rowOk_no hlt (by rw [stepOk_succ hlt]; simp [itemFine, hA]))
          clear hA
          go_quiet (first | (go_at_call 47; with_reducible refine Calls.quiet_of_same (n1'.out _)) | fail)
          go_wp2
          go_ret
          exact ⟨by rw [HR.out]; rfl, below_drewN B2.out _⟩
        | true =>
          rw [hA] at m1
          have n1' := hid m1
          clear m1
          cases hL : Op.bytesLess li[j].key.toList li[j + 1].key.toList with
          | false =>
            have hK : keyLt li[j] li[j + 1] = false := hL
            have HR : Hid (R = false) := HQ.out (rowOk_no hlt (by rw [stepOk_succ hlt]; simp [itemFine, hK]))
            clear hK hA
            go_quiet (first | (go_at_call 47; with_reducible refine Calls.quiet_of_same (n1'.out _)) | fail)
            go_wp2
            go_ret
            exact ⟨by rw [HR.out]; rfl, below_drewN B2.out _⟩
          | true =>
            have hK : keyLt li[j] li[j + 1] = true := hL
            by_cases hB : (20 : Int) < (li[j + 1].val.size : Int)
            · have hB' : decide ((20 : Int) < (li[j + 1].val.size : Int)) = true := by simpa using hB
              have hF : ¬ (li[j + 1].val.size : Int) ≤ 20 := by omega
              have HR : Hid (R = false) := HQ.out (rowOk_no hlt (by rw [stepOk_succ hlt]; simp [itemFine, hF]))
              clear hF hA hK
              go_quiet (first | (go_at_call 47; with_reducible refine Calls.quiet_of_same (n1'.out _)) | fail)
              go_wp2
              go_ret
              exact ⟨by rw [HR.out]; rfl, below_drewN B2.out _⟩
            · have hB' : decide ((20 : Int) < (li[j + 1].val.size : Int)) = false := by simpa using hB
              have hF : (li[j + 1].val.size : Int) ≤ 20 := by omega
              have m2 := fun w => l01In_any li[j + 1].ver 1 1000000000 w
              cases hV : within li[j + 1].ver 1 1000000000 with
              | false =>
                rw [hV] at m2
                have n2' := hid m2
                clear m2
                have HR : Hid (R = false) := HQ.out (rowOk_no hlt (by rw [stepOk_succ hlt]; simp [itemFine, hV]))
                clear hV hA hK hF
                go_quiet (first | (go_at_call 47; with_reducible refine Calls.quiet_of_same (n1'.out _)) | (go_at_call 47; with_reducible refine Calls.quiet_of_same (n2'.out _)) | fail)
                go_wp2
                go_ret
                exact ⟨by rw [HR.out]; rfl, below_drewN B2.out _⟩
              | true =>
                rw [hV] at m2
                have n2' := hid m2
                clear m2
                have ST : Hid (stepOk itemFine keyLt li (j + 1) = true) := by show _ = _; rw [stepOk_succ hlt]; simp [itemFine, hA, hK, hF, hV]
                clear hV hA hK hF
                go_quiet (first | (go_at_call 47; with_reducible refine Calls.quiet_of_same (n1'.out _)) | (go_at_call 47; with_reducible refine Calls.quiet_of_same (n2'.out _)) | fail)
                go_wp2
                go_roundg g
                case measure => omega
                case rel => exact ⟨j + 1 + 1, by omega, by go_num, below_drewN B2.out _, X2, (fun i hi => by
                  rcases Nat.lt_or_ge i (j + 1) with h | h
                  · exact RT.out i h
                  · obtain rfl : i = j + 1 := by omega
                    exact ST.out)⟩
end Go.Proofs.YtoanhjjigbjecaaGreatDoor
