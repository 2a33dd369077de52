/-
  The walk of spec.Perform: what it answers.
  A region that draws its order and assigns a slot that an earlier operation of it reads: the rule over states of AnyOrder, where whoever writes a slot that another one reads either is waited for by that one, or waits for it.
  The walk of spec.KeepNew: a new keep.
-/
import Derived.Test.YtoanhjjigbjecaaGreatDoorJoint1
import Derived.Test.YtoanhjjigbjecaaGreatDoorJoint10
import Derived.Test.YtoanhjjigbjecaaGreatDoorJoint12
import Derived.Test.YtoanhjjigbjecaaGreatDoorJoint13
import Derived.Test.YtoanhjjigbjecaaGreatDoorJoint14
import Derived.Test.YtoanhjjigbjecaaGreatDoorJoint7
import Derived.BigQuiet
import Derived.Deep.QuietTactic
import Derived.Deep.LoopGhost
import Derived.OwnWalk
import Derived.WalkKit
import Derived.Test.YtoanhjjigbjecaaGreatDoorRows
import Derived.WalkSmall
namespace Go.Proofs.YtoanhjjigbjecaaGreatDoor
open Go.RowKit

set_option maxRecDepth 1000000 in
set_option maxHeartbeats 8000000 in
theorem specPerform_any (ao bo : Option Addr) (ls : List SessionD) (li : List ItemD) (ac bc : Nat) (index : Int) (x : CommandD) (hl : ls.length ≤ 1048576) (hl2 : li.length ≤ 1048576) (w : World) (ha : SessionsAt w ao ls) (hi : ItemsAt w bo li) :
    Calls Tryz.prog 52 #[.agg #[.slice ao ls.length ac, .slice bo li.length bc], .int .i64 index, .agg #[.int .i64 x.op, .int .i64 x.token, .int .i64 x.seq, .string x.key, .string x.val, .int .i64 x.ver]] w fun e w' => PerfDid (performD ls li index x) w e w' := by
  have h3 := four_log w (.cells #[.slice ao ls.length ac, .slice bo li.length bc] 56) (.cells #[.int .i64 x.op, .int .i64 x.token, .int .i64 x.seq, .string x.key, .string x.val, .int .i64 x.ver] 94) (.cells #[.slice none 0 0, .slice none 0 0] 56)
  obtain ⟨W0, hW0⟩ : ∃ W, ((w.alloc (.cells #[.slice ao ls.length ac, .slice bo li.length bc] 56)).alloc (.cells #[.int .i64 x.op, .int .i64 x.token, .int .i64 x.seq, .string x.key, .string x.val, .int .i64 x.ver] 94)).alloc (.cells #[.slice none 0 0, .slice none 0 0] 56) = W := ⟨_, rfl⟩
  rw [hW0] at h3
  obtain ⟨hb0, hx0, hx1, hx2⟩ := h3
  have B0 := hid hb0
  have X0 := hid (show BlockIs W0 w.heap.size 56 [.slice ao ls.length ac, .slice bo li.length bc] from hx0)
  have X1 := hid (show BlockIs W0 (w.heap.size + 1) 94 [.int .i64 x.op, .int .i64 x.token, .int .i64 x.seq, .string x.key, .string x.val, .int .i64 x.ver] from hx1)
  have X2 := hid (show BlockIs W0 (w.heap.size + 1 + 1) 56 [.slice none 0 0, .slice none 0 0] from hx2)
  have HS := hid (ha.on hb0)
  have HI := hid (hi.on hb0)
  have n0 := fun w => l01In_any index 1 1000000 w
  have n1 := fun w => specCommandOk_any x w
  have n2 := fun W hA hI => specKeepOk_any ao bo ls li ac bc hl hl2 W hA hI
  have a0 := X0.out.cell (j := 0) rfl
  have a1 := X0.out.cell (j := 1) rfl
  have ha0 := ha
  have hi0 := hi
  clear hb0 hx0 hx1 hx2 ha hi
  have NO : Hid (∀ (wa : World) (PP : Prop), performD ls li index x = ⟨[], [], ⟨#[]⟩, false⟩ → Below W0.heap.size W0 wa → (PerfDid (performD ls li index x) w (.returned (.tuple #[.agg #[.slice none 0 0, .slice none 0 0], .string ⟨#[]⟩, .bool false])) ((wa.setCell ⟨w.heap.size + 1 + 1, 0, none⟩ (.slice none 0 0)).setCell ⟨w.heap.size + 1 + 1, 1, none⟩ (.slice none 0 0)) → PP) → PP) := by
    intro wa PP h1 h2 h3
    refine h3 ?_
    rw [h1]
    exact perf_none (((below_via B0.out h2).setCell (p := ⟨w.heap.size + 1 + 1, 0, none⟩) (by show _ ≤ _ + 1 + 1; omega) _).setCell (p := ⟨w.heap.size + 1 + 1, 1, none⟩) (by show _ ≤ _ + 1 + 1; omega) _)
  have HA0 := hid ha0
  have HI0 := hid hi0
  clear ha0 hi0
  go_enter Tryz.func52, Tryz.ntmps52
  go_wp2_with fail
  refine Calls.mono (n2 _ HS.out HI.out) ?_
  rintro e wk ⟨rfl, bk⟩
  have BK := hid bk
  have x0 := (X1.out.on bk X1.out.lt).cell (j := 0) rfl
  have x1 := (X1.out.on bk X1.out.lt).cell (j := 1) rfl
  have x2 := (X1.out.on bk X1.out.lt).cell (j := 2) rfl
  have x3 := (X1.out.on bk X1.out.lt).cell (j := 3) rfl
  have x4 := (X1.out.on bk X1.out.lt).cell (j := 4) rfl
  have x5 := (X1.out.on bk X1.out.lt).cell (j := 5) rfl
  clear bk n2
  cases hko : keepOk ls li with
  | false =>
    have r0 := (X2.out.on BK.out X2.out.lt).cell (j := 0) rfl
    have r1 := (X2.out.on BK.out X2.out.lt).cell (j := 1) rfl
    have f0 := (X2.out.on BK.out X2.out.lt).thaw 0
    have f1 := (X2.out.on BK.out X2.out.lt).thaw 1
    go_wp2
    refine bodyPost_ret (v := .tuple #[.agg #[.slice none 0 0, .slice none 0 0], .string ⟨#[]⟩, .bool false]) (by simp [results, Tryz.results52, go_sem, r0, r1]) rfl ?_
    exact NO.out _ _ (by rw [performD, if_neg (by simp [mayDo, hko])]) BK.out id
  | true =>
    cases hwi : within index 1 1000000 with
    | false =>
      rw [hwi] at n0
      have m0 := hid n0
      clear n0
      have r0 := (X2.out.on BK.out X2.out.lt).cell (j := 0) rfl
      have r1 := (X2.out.on BK.out X2.out.lt).cell (j := 1) rfl
      have f0 := (X2.out.on BK.out X2.out.lt).thaw 0
      have f1 := (X2.out.on BK.out X2.out.lt).thaw 1
      have hwn : within index 1 400000 = false := by simp only [within, Bool.and_eq_false_iff, decide_eq_false_iff_not] at hwi ⊢; omega
      go_wp2_with (first | (go_at_call 47; with_reducible refine Calls.mono (m0.out _) ?_; rintro e w1 ⟨rfl, hw⟩; rw [hw]; clear hw w1))
      refine bodyPost_ret (v := .tuple #[.agg #[.slice none 0 0, .slice none 0 0], .string ⟨#[]⟩, .bool false]) (by simp [results, Tryz.results52, go_sem, r0, r1]) rfl ?_
      exact NO.out _ _ (by rw [performD, if_neg (by simp [mayDo, hwn])]) BK.out id
    | true =>
      rw [hwi] at n0
      have m0 := hid n0
      clear n0
      by_cases h4 : (400000 : Int) < index
      · have hwn : within index 1 400000 = false := by simp only [within, Bool.and_eq_false_iff, decide_eq_false_iff_not]; omega
        have r0 := (X2.out.on BK.out X2.out.lt).cell (j := 0) rfl
        have r1 := (X2.out.on BK.out X2.out.lt).cell (j := 1) rfl
        have f0 := (X2.out.on BK.out X2.out.lt).thaw 0
        have f1 := (X2.out.on BK.out X2.out.lt).thaw 1
        go_wp2_with (first | (go_at_call 47; with_reducible refine Calls.mono (m0.out _) ?_; rintro e w1 ⟨rfl, hw⟩; rw [hw]; clear hw w1))
        refine bodyPost_ret (v := .tuple #[.agg #[.slice none 0 0, .slice none 0 0], .string ⟨#[]⟩, .bool false]) (by simp [results, Tryz.results52, go_sem, r0, r1]) rfl ?_
        exact NO.out _ _ (by rw [performD, if_neg (by simp [mayDo, hwn])]) BK.out id
      · cases hco : commandOk x with
        | false =>
          rw [hco] at n1
          go_wp2_with (first | (go_at_call 47; with_reducible refine Calls.mono (m0.out _) ?_; rintro e w1 ⟨rfl, hw⟩; rw [hw]; clear hw w1) | fail)
          refine Calls.mono (n1 _) ?_
          rintro e wc ⟨rfl, bc'⟩
          have BC := hid (below_via BK.out bc')
          clear bc'
          have r0 := (X2.out.on BC.out X2.out.lt).cell (j := 0) rfl
          have r1 := (X2.out.on BC.out X2.out.lt).cell (j := 1) rfl
          have f0 := (X2.out.on BC.out X2.out.lt).thaw 0
          have f1 := (X2.out.on BC.out X2.out.lt).thaw 1
          go_wp2
          refine bodyPost_ret (v := .tuple #[.agg #[.slice none 0 0, .slice none 0 0], .string ⟨#[]⟩, .bool false]) (by simp [results, Tryz.results52, go_sem, r0, r1]) rfl ?_
          exact NO.out _ _ (by rw [performD, if_neg (by simp [mayDo, hco])]) BC.out id
        | true =>
          rw [hco] at n1
          have hwn : within index 1 400000 = true := by simp only [within, Bool.and_eq_true, decide_eq_true_eq] at hwi ⊢; omega
          have HP : Hid (performD ls li index x = doneD ls li index x) := by show _ = _; rw [performD, if_pos (by simp [mayDo, hko, hwn, hco])]
          obtain ⟨⟨hasc, hsf, hl3⟩, hasc2, hif, hl8⟩ := keep_facts hko
          obtain ⟨hops, htk, hsq⟩ := command_ops hco
          have hi0 : 1 ≤ index := by simp only [within, Bool.and_eq_true, decide_eq_true_eq] at hwi; omega
          have hi1 : index ≤ 400000 := by omega
          clear hwi hwn hko hco
          go_wp2_with (first | (go_at_call 47; with_reducible refine Calls.mono (m0.out _) ?_; rintro e w1 ⟨rfl, hw⟩; rw [hw]; clear hw w1) | fail)
          refine Calls.mono (n1 _) ?_
          rintro e wc ⟨rfl, bc'⟩
          have BC := hid (below_via BK.out bc')
          clear bc' n1 m0 x0 x1 x2 x3 x4 x5 a0 a1
          have x0 := (X1.out.on BC.out X1.out.lt).cell (j := 0) rfl
          have x1 := (X1.out.on BC.out X1.out.lt).cell (j := 1) rfl
          have x2 := (X1.out.on BC.out X1.out.lt).cell (j := 2) rfl
          have x3 := (X1.out.on BC.out X1.out.lt).cell (j := 3) rfl
          have x4 := (X1.out.on BC.out X1.out.lt).cell (j := 4) rfl
          have x5 := (X1.out.on BC.out X1.out.lt).cell (j := 5) rfl
          have a0 := (X0.out.on BC.out X0.out.lt).cell (j := 0) rfl
          have a1 := (X0.out.on BC.out X0.out.lt).cell (j := 1) rfl
          have BW := hid (below_via B0.out BC.out)
          have Y0 := hid (X0.out.on BC.out X0.out.lt)
          have Y1 := hid (X1.out.on BC.out X1.out.lt)
          have Y2 := hid (X2.out.on BC.out X2.out.lt)
          have SC := hid (HS.out.on BC.out)
          have IC := hid (HI.out.on BC.out)
          have hbase : w.heap.size + 1 + 1 < wc.heap.size := Nat.lt_of_lt_of_le Y2.out.lt (Nat.le_refl _)
          clear X0 X1 X2 HS HI B0 BK BC NO hW0
          have CC := hid (fun W hA hI => l15Copy_any ao bo ls li ac bc hl hl2 W hA hI)
          by_cases o1 : x.op = 1
          · go_wp2_with fail
            refine Calls.mono (l15Open_any ao bo ls li ac bc index (by omega) hi1 hl3 hl8 _ SC.out IC.out) ?_
            rintro e wd ⟨va, vc, vb, vd, rfl, kd, bd⟩
            have HDO : Hid (doneD ls li index x = ⟨openedD ls index, li, txt [111, 112, 101, 110, 32] ++ decT index, true⟩) := by show _ = _; rw [doneD, if_pos o1]
            have bn := below_more (Below.refl wd.heap.size wd) (.cells #[.slice va (openedD ls index).length vc, .slice vb li.length vd] 56)
            have hY := (Y2.out.on (below_via bd bn) Y2.out.lt)
            have kd' := (kd.on bn).down (show w.heap.size ≤ _ from BW.out.size)
            have BD := below_via BW.out (below_via bd bn)
            have r0 := hY.cell (j := 0) rfl
            have r1 := hY.cell (j := 1) rfl
            have f0 := hY.thaw 0
            have f1 := hY.thaw 1
            have BE := hid (((BD).setCell (p := ⟨w.heap.size + 1 + 1, 0, none⟩) (by show _ ≤ _ + 1 + 1; omega) (.slice va (openedD ls index).length vc)).setCell (p := ⟨w.heap.size + 1 + 1, 1, none⟩) (by show _ ≤ _ + 1 + 1; omega) (.slice vb li.length vd))
            have KE := hid ((KRows.far (j := 0) kd' hY (by decide) (by decide) (.slice va (openedD ls index).length vc)).far (j := 1) (hY.set 0 (.slice va (openedD ls index).length vc)) (by decide) (by decide) (.slice vb li.length vd))
            clear kd bd bn hY kd' BD
            go_wp2
            refine bodyPost_ret (v := .tuple #[.agg #[.slice va (openedD ls index).length vc, .slice vb li.length vd], .string (txt [111, 112, 101, 110, 32] ++ decT index), .bool true]) (by simp [results, Tryz.results52, go_sem, r0, r1]) rfl ?_
            rw [HP.out, HDO.out]
            exact ⟨va, vc, vb, vd, rfl, KE.out, BE.out⟩
          · have HDO : Hid (doneD ls li index x = match sessOf ls x.token with | none => ⟨ls, li, txt [110, 111, 110, 101], true⟩ | some s => askD ls li index x s) := by show _ = _; rw [doneD, if_neg o1]; rfl
            skip
            go_wp2
            go_loopg [11, 12] ls.length (fun g v i wr => ∃ (k : Nat) (z : Int), k + g = ls.length ∧ v = .int .i64 z ∧ i = .int .i64 k ∧ Hid ((z = -1 ∧ ∀ j (hj : j < ls.length), j < k → ls[j].token ≠ x.token) ∨ ∃ (p : Nat) (hp : p < ls.length), p < k ∧ z = (p : Int) ∧ ls[p].token = x.token) ∧ Hid (Below wc.heap.size wc wr))
            case atStart => exact ⟨0, -1, by omega, rfl, rfl, Or.inl ⟨rfl, fun _ _ h => absurd h (by omega)⟩, Below.refl _ _⟩
            case round =>
              obtain ⟨k, z, hkg, rfl, rfl, HZ, BR⟩ := hrel
              clear x0 x1 x2 x3 x4 x5 a0 a1
              have a0 := (Y0.out.on BR.out Y0.out.lt).cell (j := 0) rfl
              have y1 := (Y1.out.on BR.out Y1.out.lt).cell (j := 1) rfl
              cases gk with
              | zero =>
                have hlt : ¬ (k : Int) < (ls.length : Int) := by omega
                obtain rfl : k = ls.length := by omega
                have BX := hid (below_via BW.out BR.out)
                have Z0 := hid (Y0.out.on BR.out Y0.out.lt)
                have Z1 := hid (Y1.out.on BR.out Y1.out.lt)
                have Z2 := hid (Y2.out.on BR.out Y2.out.lt)
                have SR := hid (SC.out.on BR.out)
                have IR := hid (IC.out.on BR.out)
                have hbr : w.heap.size + 1 + 1 < wr.heap.size := Z2.out.lt
                have a1 := Z0.out.cell (j := 1) rfl
                have y0 := Z1.out.cell (j := 0) rfl
                have y2 := Z1.out.cell (j := 2) rfl
                have y3 := Z1.out.cell (j := 3) rfl
                have y4 := Z1.out.cell (j := 4) rfl
                have y5 := Z1.out.cell (j := 5) rfl
                clear Y0 Y1 Y2 SC IC BW BR hbase
                rcases HZ.out with ⟨rfl, hnone⟩ | ⟨p, hp, _, rfl, htp⟩
                · have HD2 : Hid (doneD ls li index x = ⟨ls, li, txt [110, 111, 110, 101], true⟩) := by show _ = _; rw [HDO.out, sessOf_not (fun j hj => hnone j hj hj)]
                  have hm1 : (-1 : Int) < 0 := by decide
                  go_wp2_with fail
                  refine Calls.mono (CC.out _ SR.out IR.out) ?_
                  rintro e wd ⟨va, vc, vb, vd, rfl, kd, bd⟩
                  have hY := Z2.out.on bd Z2.out.lt
                  have kd' := kd.down (show w.heap.size ≤ _ from BX.out.size)
                  have BD := below_via BX.out bd
                  have r0 := hY.cell (j := 0) rfl
                  have r1 := hY.cell (j := 1) rfl
                  have f0 := hY.thaw 0
                  have f1 := hY.thaw 1
                  have BE := hid (((BD).setCell (p := ⟨w.heap.size + 1 + 1, 0, none⟩) (by show _ ≤ _ + 1 + 1; omega) (.slice va ls.length vc)).setCell (p := ⟨w.heap.size + 1 + 1, 1, none⟩) (by show _ ≤ _ + 1 + 1; omega) (.slice vb li.length vd))
                  have KE := hid ((KRows.far (j := 0) kd' hY (by decide) (by decide) (.slice va ls.length vc)).far (j := 1) (hY.set 0 (.slice va ls.length vc)) (by decide) (by decide) (.slice vb li.length vd))
                  clear kd bd hY kd' BD
                  go_wp2
                  refine bodyPost_ret (v := .tuple #[.agg #[.slice va ls.length vc, .slice vb li.length vd], .string ⟨#[110, 111, 110, 101]⟩, .bool true]) (by simp [results, Tryz.results52, go_sem, r0, r1]) rfl ?_
                  rw [HP.out, HD2.out]
                  exact ⟨va, vc, vb, vd, rfl, KE.out, BE.out⟩
                · have HD2 : Hid (doneD ls li index x = askD ls li index x ls[p]) := by show _ = _; rw [HDO.out, sessOf_at hasc hp htp]
                  have HTP := hid htp
                  clear htp
                  have hp0 : ¬ (p : Int) < 0 := by omega
                  have hpl : (p : Int) < (ls.length : Int) := by omega
                  have hp0' : (0 : Int) ≤ (p : Int) := by omega
                  obtain ⟨⟨ht1, ht2⟩, ⟨hla1, hla2⟩, hrs⟩ := session_bounds (hsf _ (List.getElem_mem hp))
                  have hne : ls ≠ [] := by intro e; rw [e] at hp; simp at hp
                  obtain ⟨b, off, rfl, hc⟩ := SR.out hne
                  obtain ⟨s0, s1, s2⟩ := hc p hp
                  clear hc
                  have bn := below_more (Below.refl wr.heap.size wr) (.cells #[.int .i64 ls[p].token, .int .i64 ls[p].last, .string ls[p].reply] 86)
                  have nn : BlockIs (wr.alloc (.cells #[.int .i64 ls[p].token, .int .i64 ls[p].last, .string ls[p].reply] 86)) wr.heap.size 86 [.int .i64 ls[p].token, .int .i64 ls[p].last, .string ls[p].reply] := heap_alloc_new wr _
                  obtain ⟨V, hV⟩ : ∃ W, wr.alloc (.cells #[.int .i64 ls[p].token, .int .i64 ls[p].last, .string ls[p].reply] 86) = W := ⟨_, rfl⟩
                  rw [hV] at bn nn
                  have NV := hid nn
                  have BV := hid (below_via BX.out bn)
                  have V0 := hid (Z0.out.on bn Z0.out.lt)
                  have V1 := hid (Z1.out.on bn Z1.out.lt)
                  have V2 := hid (Z2.out.on bn Z2.out.lt)
                  have SV := hid (SR.out.on bn)
                  have IV := hid (IR.out.on bn)
                  have hbv : w.heap.size + 1 + 1 < V.heap.size := V2.out.lt
                  have v0 := V1.out.cell (j := 0) rfl
                  have v1 := V1.out.cell (j := 1) rfl
                  have v2 := V1.out.cell (j := 2) rfl
                  have v3 := V1.out.cell (j := 3) rfl
                  have v4 := V1.out.cell (j := 4) rfl
                  have v5 := V1.out.cell (j := 5) rfl
                  have b0 := V0.out.cell (j := 0) rfl
                  have b1 := V0.out.cell (j := 1) rfl
                  have n1 := NV.out.cell (j := 1) rfl
                  have n2 := NV.out.cell (j := 2) rfl
                  have n0 := NV.out.cell (j := 0) rfl
                  clear bn nn Z0 Z1 Z2 SR IR BX
                  by_cases q0 : x.seq = 0
                  · have HD3 : Hid (doneD ls li index x = ⟨ls, li, txt [111, 108, 100], true⟩) := by show _ = _; rw [HD2.out, askD, if_pos (Or.inl q0)]
                    go_wp2_with fail
                    refine Calls.mono (CC.out _ SV.out IV.out) ?_
                    rintro e wd ⟨va, vc, vb, vd, rfl, kd, bd⟩
                    have hY := V2.out.on bd V2.out.lt
                    have kd' := kd.down (show w.heap.size ≤ _ from BV.out.size)
                    have BD := below_via BV.out bd
                    have r0 := hY.cell (j := 0) rfl
                    have r1 := hY.cell (j := 1) rfl
                    have f0 := hY.thaw 0
                    have f1 := hY.thaw 1
                    have BE := hid (((BD).setCell (p := ⟨w.heap.size + 1 + 1, 0, none⟩) (by show _ ≤ _ + 1 + 1; omega) (.slice va ls.length vc)).setCell (p := ⟨w.heap.size + 1 + 1, 1, none⟩) (by show _ ≤ _ + 1 + 1; omega) (.slice vb li.length vd))
                    have KE := hid ((KRows.far (j := 0) kd' hY (by decide) (by decide) (.slice va ls.length vc)).far (j := 1) (hY.set 0 (.slice va ls.length vc)) (by decide) (by decide) (.slice vb li.length vd))
                    clear kd bd hY kd' BD
                    go_wp2
                    refine bodyPost_ret (v := .tuple #[.agg #[.slice va ls.length vc, .slice vb li.length vd], .string ⟨#[111, 108, 100]⟩, .bool true]) (by simp [results, Tryz.results52, go_sem, r0, r1]) rfl ?_
                    rw [HP.out, HD3.out]
                    exact ⟨va, vc, vb, vd, rfl, KE.out, BE.out⟩
                  by_cases q1 : x.seq < ls[p].last
                  · have HD3 : Hid (doneD ls li index x = ⟨ls, li, txt [111, 108, 100], true⟩) := by show _ = _; rw [HD2.out, askD, if_pos (Or.inr q1)]
                    go_wp2_with fail
                    refine Calls.mono (CC.out _ SV.out IV.out) ?_
                    rintro e wd ⟨va, vc, vb, vd, rfl, kd, bd⟩
                    have hY := V2.out.on bd V2.out.lt
                    have kd' := kd.down (show w.heap.size ≤ _ from BV.out.size)
                    have BD := below_via BV.out bd
                    have r0 := hY.cell (j := 0) rfl
                    have r1 := hY.cell (j := 1) rfl
                    have f0 := hY.thaw 0
                    have f1 := hY.thaw 1
                    have BE := hid (((BD).setCell (p := ⟨w.heap.size + 1 + 1, 0, none⟩) (by show _ ≤ _ + 1 + 1; omega) (.slice va ls.length vc)).setCell (p := ⟨w.heap.size + 1 + 1, 1, none⟩) (by show _ ≤ _ + 1 + 1; omega) (.slice vb li.length vd))
                    have KE := hid ((KRows.far (j := 0) kd' hY (by decide) (by decide) (.slice va ls.length vc)).far (j := 1) (hY.set 0 (.slice va ls.length vc)) (by decide) (by decide) (.slice vb li.length vd))
                    clear kd bd hY kd' BD
                    go_wp2
                    refine bodyPost_ret (v := .tuple #[.agg #[.slice va ls.length vc, .slice vb li.length vd], .string ⟨#[111, 108, 100]⟩, .bool true]) (by simp [results, Tryz.results52, go_sem, r0, r1]) rfl ?_
                    rw [HP.out, HD3.out]
                    exact ⟨va, vc, vb, vd, rfl, KE.out, BE.out⟩
                  by_cases q2 : x.seq = ls[p].last
                  · have HD3 : Hid (doneD ls li index x = ⟨ls, li, ls[p].reply, true⟩) := by show _ = _; rw [HD2.out, askD, if_neg (by omega), if_pos q2]
                    go_wp2
                    refine wp_region_each (N := 120) (by kernel_rfl) (by kernel_rfl) rfl (by kernel_rfl) (fun W => Below w.heap.size w W ∧ Below (w.heap.size + 1 + 1) V W ∧ (∃ cs, cs.length = 2 ∧ BlockIs W (w.heap.size + 1 + 1) 56 cs) ∧ BlockIs W wr.heap.size 86 [.int .i64 ls[p].token, .int .i64 ls[p].last, .string ls[p].reply]) (fun j v _ W => match j with | 0 => v = .agg #[.slice (some ⟨b, off, none⟩) ls.length ac, .slice bo li.length bc] | 1 => ∃ va vc vb vd, v = .agg #[.slice va ls.length vc, .slice vb li.length vd] ∧ KRows W w.heap.size (.slice va ls.length vc) (.slice vb li.length vd) ls li | 2 => v = .pointer (some ⟨wr.heap.size, 2, none⟩) | 3 => v = .string ls[p].reply | 4 => ∃ va vc vb vd, BlockIs W (w.heap.size + 1 + 1) 56 [.slice va ls.length vc, .slice vb li.length vd] ∧ KRows W w.heap.size (.slice va ls.length vc) (.slice vb li.length vd) ls li | 5 => v = .string ls[p].reply | 6 => v = .bool true | _ => True) (fun i => i) (fun j i => decide ((j, i) ∈ ([(1, 4)] : List (Nat × Nat)))) (fun i X9 Y9 => ∀ g ty cs, BlockIs X9 g ty cs → i ≠ 4 → BlockIs Y9 g ty cs) (fun _ => 0) (by kernel_rfl) (fun _ _ => rfl) ?_ ⟨below_drewN BV.out 1, below_drewN (Below.refl _ _) 1, ⟨_, rfl, V2.out⟩, NV.out⟩ ?_ ?_
                    · intro i j v u x y hij hdd hwt hxy hg
                      match j, hg with
                      | 0, hg => exact hg
                      | 1, hg =>
                        obtain ⟨va, vc, vb, vd, e1, e2⟩ := hg
                        simp at hdd
                        exact ⟨va, vc, vb, vd, e1, row_ext e2.1 fun g cs h => hxy _ _ _ h hdd, row_ext e2.2 fun g cs h => hxy _ _ _ h hdd⟩
                      | 2, hg => exact hg
                      | 3, hg => exact hg
                      | 4, hg =>
                        obtain ⟨va, vc, vb, vd, e1, e2⟩ := hg
                        exact ⟨va, vc, vb, vd, hxy _ _ _ e1 hij, row_ext e2.1 fun g cs h => hxy _ _ _ h hij, row_ext e2.2 fun g cs h => hxy _ _ _ h hij⟩
                      | 5, hg => exact hg
                      | 6, hg => exact hg
                      | n + 7, _ => exact trivial
                    · refine ⟨?_, ?_, ?_, ?_, ?_, ?_, ?_, trivial⟩
                      · intro A W hC hg hb
                        have h3 : A.eval (.tmp 3) = .pointer (some ⟨w.heap.size, 0, none⟩) := hb 3 (base_of (by kernel_rfl))
                        obtain ⟨k1, k2, ⟨cs, k3, k4⟩, k5⟩ := hC
                        have hv := V0.out.on k2 (show w.heap.size < w.heap.size + 1 + 1 by omega)
                        have c0 := hv.cell (j := 0) rfl
                        have c1 := hv.cell (j := 1) rfl
                        exact does_value (v := .agg #[.slice (some ⟨b, off, none⟩) ls.length ac, .slice bo li.length bc]) (w' := W) (by simp only [execOp, h3]; simp [go_sem, c0, c1]) ⟨rfl, ⟨k1, k2, ⟨cs, k3, k4⟩, k5⟩, fun _ _ _ h _ => h⟩
                      · intro A W hC hg hb
                        have h88 : A.eval (.tmp 88) = .agg #[.slice (some ⟨b, off, none⟩) ls.length ac, .slice bo li.length bc] := hg 0 88 (by decide) rfl (by simp [Op.operands, Call.operands]) (by kernel_rfl) rfl
                        simp [go_sem] at h88
                        obtain ⟨k1, k2, ⟨cs, k3, k4⟩, k5⟩ := hC
                        refine does_enter (f := 85) (args := #[.agg #[.slice (some ⟨b, off, none⟩) ls.length ac, .slice bo li.length bc]]) (w' := W) (by simp [go_sem, h88]) ?_
                        refine Calls.mono (CC.out W (HA0.out.on k1) (HI0.out.on k1)) ?_
                        rintro e W' ⟨va, vc, vb, vd, rfl, kd, bd⟩
                        exact ⟨_, rfl, ⟨va, vc, vb, vd, rfl, kd.down k1.size⟩, ⟨below_via k1 bd, k2.trans (bd.mono (Nat.le_of_lt (Nat.lt_of_lt_of_le hbv k2.size))), ⟨cs, k3, k4.on bd k4.lt⟩, k5.on bd k5.lt⟩, fun _ _ _ h _ => h.on bd h.lt⟩
                      · intro A W hC hg hb
                        have h13 : A.eval (.tmp 13) = .pointer (some ⟨wr.heap.size, 0, none⟩) := hb 13 (base_of (by kernel_rfl))
                        exact does_value (v := .pointer (some ⟨wr.heap.size, 2, none⟩)) (w' := W) (by simp only [execOp, h13]; simp [go_sem]) ⟨rfl, hC, fun _ _ _ h _ => h⟩
                      · intro A W hC hg hb
                        have h90 : A.eval (.tmp 90) = .pointer (some ⟨wr.heap.size, 2, none⟩) := hg 2 90 (by decide) rfl (by simp [Op.operands]) (by kernel_rfl) rfl
                        obtain ⟨k1, k2, ⟨cs, k3, k4⟩, k5⟩ := hC
                        have c0 := k5.cell (j := 2) rfl
                        exact does_value (v := .string ls[p].reply) (w' := W) (by simp only [execOp, h90]; simp [go_sem, c0]) ⟨rfl, ⟨k1, k2, ⟨cs, k3, k4⟩, k5⟩, fun _ _ _ h _ => h⟩
                      · intro A W hC hg hb
                        have h6 : A.eval (.tmp 6) = .pointer (some ⟨w.heap.size + 1 + 1, 0, none⟩) := hb 6 (base_of (by kernel_rfl))
                        have g1 := hg 1 89 (by decide) rfl (by simp [Op.operands]) (by kernel_rfl) rfl
                        obtain ⟨va, vc, vb, vd, e8, hkr⟩ := g1
                        obtain ⟨k1, k2, ⟨cs, k3, k4⟩, k5⟩ := hC
                        match cs, k3 with
                        | [a0, a1], _ =>
                          have c0 := k4.cell (j := 0) rfl
                          have c1 := k4.cell (j := 1) rfl
                          have f0 := k4.thaw 0
                          have f1 := k4.thaw 1
                          have hX3 := (k4.set 0 (.slice va ls.length vc)).set 1 (.slice vb li.length vd)
                          exact does_skip (w' := ((W.setCell ⟨w.heap.size + 1 + 1, 0, none⟩ (.slice va ls.length vc)).setCell ⟨w.heap.size + 1 + 1, 1, none⟩ (.slice vb li.length vd))) (by simp only [execOp, h6, e8]; simp [go_sem, c0, c1, f0, f1]) ⟨⟨va, vc, vb, vd, hX3, (KRows.far (j := 0) hkr k4 (by decide) (by decide) _).far (j := 1) (k4.set 0 _) (by decide) (by decide) _⟩, ⟨(k1.setCell (by show _ ≤ _ + 1 + 1; omega) _).setCell (by show _ ≤ _ + 1 + 1; omega) _, (k2.setCell (Nat.le_refl _) _).setCell (Nat.le_refl _) _, ⟨_, rfl, hX3⟩, (k5.far (by omega) _).far (by omega) _⟩, fun _ _ _ _ hne => absurd rfl hne⟩
                      · intro A W hC hg hb
                        have h91 : A.eval (.tmp 91) = .string ls[p].reply := hg 3 91 (by decide) rfl (by simp [Op.operands]) (by kernel_rfl) rfl
                        exact does_value (v := .string ls[p].reply) (w' := W) (by simp only [execOp, h91]; simp [go_sem]) ⟨rfl, hC, fun _ _ _ h _ => h⟩
                      · intro A W hC hg hb
                        exact does_value (v := .bool true) (w' := W) (by simp [execOp, go_sem]) ⟨rfl, hC, fun _ _ _ h _ => h⟩
                    · intro vs w4 hC hg
                      obtain ⟨va, vc, vb, vd, g1, g2⟩ := hg 4 (by decide) (fun k => by simp)
                      have e5 := hg 5 (by decide) (fun k => by simp)
                      have e6 := hg 6 (by decide) (fun k => by simp)
                      clear hg
                      change Exit.then _ _ _ (laidBy _ vs _ 7 _) w4
                      simp only [laidBy, if_true, dstAt, List.getElem?_toArray, List.getElem?_cons_succ, List.getElem?_cons_zero, Option.bind_some]
                      simp only [Act.put, List.setIfInBounds_toArray, List.set_cons_succ, List.set_cons_zero]
                      change vs 5 = _ at e5
                      change vs 6 = _ at e6
                      rw [e5, e6]
                      have r0 := g1.cell (j := 0) rfl
                      have r1 := g1.cell (j := 1) rfl
                      have BE := hid hC.1
                      have KE := hid g2
                      clear hC g1 g2 e5 e6
                      go_wp2
                      refine bodyPost_ret (v := .tuple #[.agg #[.slice va ls.length vc, .slice vb li.length vd], .string ls[p].reply, .bool true]) (by simp [results, Tryz.results52, go_sem, r0, r1]) rfl ?_
                      rw [HP.out, HD3.out]
                      exact ⟨va, vc, vb, vd, rfl, KE.out, BE.out⟩
                  by_cases q3 : ls[p].last + 1 < x.seq
                  · have HD3 : Hid (doneD ls li index x = ⟨ls, li, txt [103, 97, 112], true⟩) := by show _ = _; rw [HD2.out, askD, if_neg (by omega), if_neg q2, if_pos (by omega)]
                    go_wp2_with fail
                    refine Calls.mono (CC.out _ SV.out IV.out) ?_
                    rintro e wd ⟨va, vc, vb, vd, rfl, kd, bd⟩
                    have hY := V2.out.on bd V2.out.lt
                    have kd' := kd.down (show w.heap.size ≤ _ from BV.out.size)
                    have BD := below_via BV.out bd
                    have r0 := hY.cell (j := 0) rfl
                    have r1 := hY.cell (j := 1) rfl
                    have f0 := hY.thaw 0
                    have f1 := hY.thaw 1
                    have BE := hid (((BD).setCell (p := ⟨w.heap.size + 1 + 1, 0, none⟩) (by show _ ≤ _ + 1 + 1; omega) (.slice va ls.length vc)).setCell (p := ⟨w.heap.size + 1 + 1, 1, none⟩) (by show _ ≤ _ + 1 + 1; omega) (.slice vb li.length vd))
                    have KE := hid ((KRows.far (j := 0) kd' hY (by decide) (by decide) (.slice va ls.length vc)).far (j := 1) (hY.set 0 (.slice va ls.length vc)) (by decide) (by decide) (.slice vb li.length vd))
                    clear kd bd hY kd' BD
                    go_wp2
                    refine bodyPost_ret (v := .tuple #[.agg #[.slice va ls.length vc, .slice vb li.length vd], .string ⟨#[103, 97, 112]⟩, .bool true]) (by simp [results, Tryz.results52, go_sem, r0, r1]) rfl ?_
                    rw [HP.out, HD3.out]
                    exact ⟨va, vc, vb, vd, rfl, KE.out, BE.out⟩
                  obtain ⟨D, hD⟩ : ∃ D, doD li index x = D := ⟨_, rfl⟩
                  have HD3 : Hid (doneD ls li index x = ⟨ls.set p ⟨ls[p].token, x.seq, D.2⟩, D.1, D.2, true⟩) := by show _ = _; rw [HD2.out, askD, if_neg (by omega), if_neg q2, if_neg (by omega), hD, set_putIn (y := ⟨ls[p].token, x.seq, D.2⟩) hasc hp rfl, HTP.out]
                  have HDD := hid hD
                  clear hD
                  go_wp2_with fail
                  refine Calls.mono (CC.out _ SV.out IV.out) ?_
                  rintro e wd ⟨va, vc, vb, vd, rfl, kd, bd⟩
                  have bn := below_more (Below.refl wd.heap.size wd) (.cells #[.slice va ls.length vc, .slice vb li.length vd] 56)
                  have nn : BlockIs (wd.alloc (.cells #[.slice va ls.length vc, .slice vb li.length vd] 56)) wd.heap.size 56 [.slice va ls.length vc, .slice vb li.length vd] := heap_alloc_new wd _
                  have kn := kd.on bn
                  have bdn := below_via bd bn
                  obtain ⟨U, hU⟩ : ∃ W, wd.alloc (.cells #[.slice va ls.length vc, .slice vb li.length vd] 56) = W := ⟨_, rfl⟩
                  rw [hU] at nn kn bdn
                  have hud : V.heap.size ≤ wd.heap.size := bd.size
                  have U1 := hid (V1.out.on bdn V1.out.lt)
                  have U2 := hid (V2.out.on bdn V2.out.lt)
                  have BU := hid (below_via BV.out bdn)
                  have NU := hid nn
                  have RU := hid (kn.down (show w.heap.size ≤ _ from BV.out.size))
                  have hwU : w.heap.size ≤ U.heap.size := BU.out.size
                  have u0 := U1.out.cell (j := 0) rfl
                  have u1 := U1.out.cell (j := 1) rfl
                  have u2 := U1.out.cell (j := 2) rfl
                  have u3 := U1.out.cell (j := 3) rfl
                  have u4 := U1.out.cell (j := 4) rfl
                  have u5 := U1.out.cell (j := 5) rfl
                  clear bn nn kn bdn kd bd v0 v1 v2 v3 v4 v5 b0 b1 n0 n1 n2 V0 V1 V2 SV IV BV NV CC
                  go_wp2_with fail
                  refine Calls.mono (l15Do_any wd.heap.size w.heap.size (.slice va ls.length vc) vb li vd index x ⟨_, _, _, rfl⟩ (by omega) hi1 hl8 hif (by omega) U hwU NU.out RU.out.2) ?_
                  rintro e wf ⟨rfl, vb', vd', kf, rf, gf⟩
                  rw [HDD.out] at kf rf ⊢
                  obtain ⟨g, rr, rfl, hwg, hgb⟩ := row_blockK (by omega) RU.out.1
                  have hgne : g ≠ wd.heap.size := by intro e; subst e; exact absurd (block_one hgb NU.out).1 (by decide)
                  have rs : wf.ownsRow w.heap.size 86 3 (.slice (some ⟨g, 0, none⟩) ls.length vc) ls.length (sessionCells ls) := RU.out.1.kept gf (Or.inr (by simpa [Value.ownBlock] using hgne))
                  obtain ⟨hcap, _⟩ := row_capK rs
                  obtain ⟨g', rr', eg, _, hgf⟩ := row_blockK (by omega) rs
                  cases eg
                  have F1 : BlockIs wf (w.heap.size + 1) 94 [.int .i64 x.op, .int .i64 x.token, .int .i64 x.seq, .string x.key, .string x.val, .int .i64 x.ver] := by unfold BlockIs; rw [gf.block _ U1.out.lt (by simp; omega)]; exact U1.out
                  have F2 : BlockIs wf (w.heap.size + 1 + 1) 56 [.slice none 0 0, .slice none 0 0] := by unfold BlockIs; rw [gf.block _ U2.out.lt (by simp; omega)]; exact U2.out
                  have BF := BU.out.grown gf hwU (fun k e => by cases e; omega)
                  have c0 := kf.cell (j := 0) rfl
                  have c1 := kf.cell (j := 1) rfl
                  have y2 := F1.cell (j := 2) rfl
                  have e1 := hgf.cell (j := p * 3 + 1) (row_at sessionEnc 3 (fun _ => rfl) ls _ p 1 hp (by omega))
                  have e2 := hgf.cell (j := p * 3 + 2) (row_at sessionEnc 3 (fun _ => rfl) ls _ p 2 hp (by omega))
                  have t1 := hgf.thaw (p * 3 + 1)
                  have t2 := hgf.thaw (p * 3 + 2)
                  obtain ⟨D1, hD1⟩ : ∃ D1, D.1 = D1 := ⟨_, rfl⟩
                  obtain ⟨D2, hD2⟩ : ∃ D2, D.2 = D2 := ⟨_, rfl⟩
                  rw [hD1] at kf rf c1 HD3
                  rw [hD2] at HD3 ⊢
                  clear hD1 hD2 HDD HD2
                  obtain ⟨W5, hW5⟩ : ∃ W, wf.setCell ⟨g, p * 3 + 1, none⟩ (.int .i64 x.seq) = W := ⟨_, rfl⟩
                  obtain ⟨W6, hW6⟩ : ∃ W, W5.setCell ⟨g, p * 3 + 2, none⟩ (.string D2) = W := ⟨_, rfl⟩
                  have hgw : g ≠ w.heap.size + 1 + 1 := by intro e; subst e; exact absurd (block_one hgf F2).1 (by decide)
                  have far : ∀ q ty cs, BlockIs wf q ty cs → g ≠ q → BlockIs W6 q ty cs := fun q ty cs h hq => by rw [← hW6, ← hW5]; exact (h.far hq _).far hq _
                  have far5 : ∀ q ty cs, BlockIs wf q ty cs → g ≠ q → BlockIs W5 q ty cs := fun q ty cs h hq => by rw [← hW5]; exact h.far hq _
                  have rs6 : W6.ownsRow w.heap.size 86 3 (.slice (some ⟨g, 0, none⟩) ls.length vc) ls.length (sessionCells (ls.set p ⟨ls[p].token, x.seq, D2⟩)) := by rw [← hW6, ← hW5, ← cells_set2 hp]; exact row_setK (row_setK rs _) _
                  have ri6 : W6.ownsRow w.heap.size 89 3 (.slice vb' D1.length vd') D1.length (itemCells D1) := row_ext rf fun q cs h => far q _ _ h (fun e => by subst e; exact absurd (block_one h hgf).1 (by decide))
                  have k6 := far _ _ _ kf (by omega)
                  have k5 := far5 _ _ _ kf (by omega)
                  have y6 := far _ _ _ F2 hgw
                  have B6 : Below w.heap.size w W6 := by rw [← hW6, ← hW5]; exact (BF.setCell (by show _ ≤ g; omega) _).setCell (by show _ ≤ g; omega) _
                  have d50 := k5.cell (j := 0) rfl
                  have d60 := k6.cell (j := 0) rfl
                  have d61 := k6.cell (j := 1) rfl
                  have e2' : W5.cell? ⟨g, p * 3 + 2, none⟩ = some (.string ls[p].reply) := by rw [← hW5]; exact (hgf.set _ _).cell (by rw [List.getElem?_set_ne (by omega)]; exact row_at sessionEnc 3 (fun _ => rfl) ls _ p 2 hp (by omega))
                  have t2' : W5.frozen? ⟨g, p * 3 + 2, none⟩ = false := by rw [← hW5]; exact (hgf.set _ _).thaw _
                  have rl : (ls.set p ⟨ls[p].token, x.seq, D2⟩).length = ls.length := List.length_set
                  have HRL := hid rl
                  clear rl
                  have r0 := y6.cell (j := 0) rfl
                  have r1 := y6.cell (j := 1) rfl
                  have f0 := y6.thaw 0
                  have f1 := y6.thaw 1
                  have KX : KRows W6 w.heap.size (.slice (some ⟨g, 0, none⟩) ls.length vc) (.slice vb' D1.length vd') (ls.set p ⟨ls[p].token, x.seq, D2⟩) D1 := ⟨by rw [HRL.out]; exact rs6, ri6⟩
                  have BE := hid ((B6.setCell (p := ⟨w.heap.size + 1 + 1, 0, none⟩) (by show _ ≤ _ + 1 + 1; omega) (.slice (some ⟨g, 0, none⟩) ls.length vc)).setCell (p := ⟨w.heap.size + 1 + 1, 1, none⟩) (by show _ ≤ _ + 1 + 1; omega) (.slice vb' D1.length vd'))
                  have KE := hid ((KX.far (j := 0) y6 (by decide) (by decide) (.slice (some ⟨g, 0, none⟩) ls.length vc)).far (j := 1) (y6.set 0 (.slice (some ⟨g, 0, none⟩) ls.length vc)) (by decide) (by decide) (.slice vb' D1.length vd'))
                  clear kf rf gf hgb rs hgf F1 F2 BF far far5 rs6 ri6 k6 k5 y6 B6 KX U1 U2 BU NU RU
                  go_wp2
                  refine bodyPost_ret (v := .tuple #[.agg #[.slice (some ⟨g, 0, none⟩) ls.length vc, .slice vb' D1.length vd'], .string D2, .bool true]) (by simp [results, Tryz.results52, go_sem, r0, r1]) rfl ?_
                  rw [HP.out, HD3.out]
                  exact ⟨some ⟨g, 0, none⟩, vc, vb', vd', by rw [HRL.out], by rw [HRL.out]; exact KE.out, BE.out⟩
              | succ q =>
                have hlt : k < ls.length := by omega
                have hlt' : (k : Int) < (ls.length : Int) := by omega
                have hne : ls ≠ [] := by intro e; rw [e] at hlt; simp at hlt
                obtain ⟨b, off, rfl, hc⟩ := SC.out.on BR.out hne
                obtain ⟨s0, s1, s2⟩ := hc k hlt
                clear hc
                by_cases he : ls[k].token = x.token
                · have he' : (ls[k].token == x.token) = true := beq_iff_eq.2 he
                  go_wp2
                  go_quiet (fail)
                  go_wp2
                  go_roundg q
                  case measure => omega
                  case rel => exact ⟨k + 1, (k : Int), by omega, rfl, by go_num, Or.inr ⟨k, hlt, by omega, rfl, he⟩, below_drewN BR.out _⟩
                · have he' : (ls[k].token == x.token) = false := beq_eq_false_iff_ne.2 he
                  go_wp2
                  go_quiet (fail)
                  go_wp2
                  go_roundg q
                  case measure => omega
                  case rel =>
                    refine ⟨k + 1, z, by omega, rfl, by go_num, ?_, below_drewN BR.out _⟩
                    rcases HZ.out with ⟨hz, hn⟩ | ⟨p, hp, hpk, hz, ht⟩
                    · exact Or.inl ⟨hz, fun j hj hjk => by
                        rcases Nat.lt_or_ge j k with q | q
                        · exact hn j hj q
                        · obtain rfl : j = k := by omega
                          exact he⟩
                    · exact Or.inr ⟨p, hp, by omega, hz, ht⟩
end Go.Proofs.YtoanhjjigbjecaaGreatDoor

namespace Go.Proofs.YtoanhjjigbjecaaGreatDoor

/-- k waits for i, or for one that waits for i -/
def lateB (ops : Array Oper) (k i : Nat) : Bool := waitsB ops k i || (List.range ops.size).any fun q => waitsB ops k q && waitsB ops q i
theorem laidBy_eval2 (ops : Array Oper) (vs : Nat → Value) (l l' : Nat → Bool) (x : Operand) (n : Nat) (a : Act) (h : ∀ j, j < n → ∀ d, dstAt ops j = some d → x = .tmp d → l j = l' j) :
    (laidBy ops vs l n a).eval x = (laidBy ops vs l' n a).eval x := by
  induction n with
  | zero => rfl
  | succ n ih =>
    have ih' := ih (fun j hj => h j (by omega))
    rw [laidBy, laidBy]
    by_cases hd : ∃ d, dstAt ops n = some d ∧ x = .tmp d
    · obtain ⟨d, h1, h2⟩ := hd
      rw [h n (by omega) d h1 h2]
      split
      · exact eval_put_both (by rw [laidBy_size, laidBy_size]) ih' _ _
      · exact ih'
    · have e1 : ∀ (b : Act), (b.put (dstAt ops n) (vs n)).eval x = b.eval x := fun b => Act.eval_put (fun d h1 h2 => hd ⟨d, h1, h2⟩)
      split <;> split <;> (try simp only [e1]) <;> exact ih'
/-- what is asked of a region: each edge points back; whoever reads a value waits for it, or its writer waits for the reader; no guards, no select; each value has a place of its own -/
def planC (ops : Array Oper) : Bool :=
  (List.range ops.size).all fun i => match ops[i]? with
    | none => true
    | some o => o.guard.isNone && (match o.op with | .select .. => false | _ => true) && (o.after.all fun e => !Region.binds .any e || decide (e.on < i)) &&
      (List.range ops.size).all fun j => match dstAt ops j with
        | none => true
        | some d => (decide (j = i) || (o.dst != some d)) && (!(o.op.operands.toList.any fun x => match x with | .tmp t => t == d | _ => false) || (o.after.toList.any fun e => Region.binds .any e && decide (e.on = j)) || lateB ops j i)
theorem planC_spec {ops : Array Oper} (h : planC ops = true) {i : Nat} {o : Oper} (ho : ops[i]? = some o) :
    o.guard = none ∧ (∀ cs b, o.op ≠ .select cs b) ∧ (∀ e ∈ o.after, Region.binds .any e = true → e.on < i) ∧ ∀ j, j < ops.size → ∀ d, dstAt ops j = some d → (j ≠ i → o.dst ≠ some d) ∧ (.tmp d ∈ o.op.operands → (∃ e ∈ o.after, Region.binds .any e = true ∧ e.on = j) ∨ lateB ops j i = true) := by
  have hlt : i < ops.size := (Array.getElem?_eq_some_iff.1 ho).1
  unfold planC at h
  rw [List.all_eq_true] at h
  have hi := h i (List.mem_range.2 hlt)
  simp only [ho, Bool.and_eq_true] at hi
  obtain ⟨⟨⟨h1, h2⟩, h3⟩, h4⟩ := hi
  refine ⟨by simpa using h1, ?_, ?_, ?_⟩
  · intro cs b e
    rw [e] at h2
    simp at h2
  · intro e he hb
    rw [Array.all_eq_true_iff_forall_mem] at h3
    simpa [hb] using h3 e he
  · intro j hj d hd
    rw [List.all_eq_true] at h4
    have h5 := h4 j (List.mem_range.2 hj)
    simp only [hd, Bool.and_eq_true, Bool.or_eq_true] at h5
    obtain ⟨h6, h7⟩ := h5
    refine ⟨?_, ?_⟩
    · intro hne
      rcases h6 with q | q
      · exact absurd (by simpa using q) hne
      · simpa using q
    · intro hm
      rcases h7 with (q | q) | q
      · have hy : (o.op.operands.toList.any fun x => match x with | .tmp t => t == d | _ => false) = true := List.any_eq_true.2 ⟨.tmp d, by simpa using hm, by simp⟩
        rw [hy] at q
        cases q
      · obtain ⟨e, he, q⟩ := List.any_eq_true.1 q
        simp only [Bool.and_eq_true, decide_eq_true_eq] at q
        exact Or.inl ⟨e, by simpa using he, q.1, q.2⟩
      · exact Or.inr q
theorem waitsB_lt {ops : Array Oper} (h : planC ops = true) {k i : Nat} (hw : waitsB ops k i = true) : i < k := by
  obtain ⟨o, ho, e, he, hb, rfl⟩ := waitsB_spec hw
  exact (planC_spec h ho).2.2.1 e he hb
theorem lateB_lt {ops : Array Oper} (h : planC ops = true) {k i : Nat} (hw : lateB ops k i = true) : i < k := by
  unfold lateB at hw
  rw [Bool.or_eq_true] at hw
  rcases hw with hw | hw
  · exact waitsB_lt h hw
  · obtain ⟨q, _, hq⟩ := List.any_eq_true.1 hw
    rw [Bool.and_eq_true] at hq
    exact Nat.lt_trans (waitsB_lt h hq.2) (waitsB_lt h hq.1)

section
variable {P : Program} {ops : Array Oper} {Q : Exit → Act → World → Prop}

theorem wpAny_late (hp : planC ops = true) (a0 : Act) (C : World → Prop) (good : Nat → Value → Value → World → Prop) (mate : Nat → Nat) (dies : Nat → Nat → Bool) (Ext : Nat → World → World → Prop) (init : Nat → World → Prop) (ends : Nat → Nat → Bool) (hinit : ∀ i m w w', ends m i = false → Ext i w w' → init m w → init m w') (hmate : ∀ i, mate i = i ∨ ∃ o, ops[i]? = some o ∧ ∃ e ∈ o.after, Region.binds .any e = true ∧ e.on = mate i)
    (hext : ∀ i j v u w w', i ≠ j → dies j i = false → waitsB ops j i = false → Ext i w w' → good j v u w → good j v u w')
    (hs : ∀ i o, ops[i]? = some o → ∀ vs w, C w → (∀ m, freshB ops ends i m = true → init m w) → (∀ e ∈ o.after, Region.binds .any e = true → freshB ops dies i e.on = true → good e.on (vs e.on) (vs (mate e.on)) w) → Does P o (laidBy ops vs (fun j => !lateB ops j i) ops.size a0) w fun v w' => good i v (if mate i = i then v else vs (mate i)) w' ∧ C w' ∧ Ext i w w')
    (hf : ∀ vs w, C w → (∀ m, (∀ k, ends m k = false) → init m w) → (∀ j, j < ops.size → (∀ k, dies j k = false) → good j (vs j) (vs (mate j)) w) → Q .normal (laidBy ops vs (fun _ => true) ops.size a0) w) :
    ∀ (fuel : Nat) (listed : Array Bool) (a : Act) (w : World), listed.size = ops.size → open_ listed ops.size ≤ fuel →
      (∃ vs, a = laidBy ops vs (fun j => listed.getD j false) ops.size a0 ∧ C w ∧ (∀ j o, listed.getD j false = true → ops[j]? = some o → ∀ e ∈ o.after, Region.binds .any e = true → listed.getD e.on false = true) ∧ (∀ m, (∀ k, ends m k = true → listed.getD k false = false) → init m w) ∧ ∀ j, j < ops.size → listed.getD j false = true → (∀ k, dies j k = true → listed.getD k false = false) → good j (vs j) (vs (mate j)) w) → wpAny P .any ops Q fuel listed a w := by
  have hdist : ∀ i j, i ≠ j → ∀ d, dstAt ops i = some d → dstAt ops j ≠ some d := by
    intro i j hij d hd e
    have hdst := e
    unfold dstAt at hdst
    cases hoj : ops[j]? with
    | none => rw [hoj] at hdst; cases hdst
    | some o =>
      rw [hoj] at hdst
      have hi : i < ops.size := by
        rcases Nat.lt_or_ge i ops.size with q | q
        · exact q
        · unfold dstAt at hd; rw [Array.getElem?_eq_none q] at hd; cases hd
      exact ((planC_spec hp hoj).2.2.2 i hi d hd).1 hij hdst
  have fin : ∀ (listed : Array Bool) (a : Act) (w : World), (∀ j, j < ops.size → listed.getD j false = true) → (∃ vs, a = laidBy ops vs (fun j => listed.getD j false) ops.size a0 ∧ C w ∧ (∀ j o, listed.getD j false = true → ops[j]? = some o → ∀ e ∈ o.after, Region.binds .any e = true → listed.getD e.on false = true) ∧ (∀ m, (∀ k, ends m k = true → listed.getD k false = false) → init m w) ∧ ∀ j, j < ops.size → listed.getD j false = true → (∀ k, dies j k = true → listed.getD k false = false) → good j (vs j) (vs (mate j)) w) → Q .normal a w := by
    rintro listed a w hall ⟨vs, rfl, hC, _, hIn, hg⟩
    rw [laidBy_congr ops vs vs _ (fun _ => true) ops.size a0 (fun j hj => hall j hj) (fun _ _ _ => rfl)]
    exact hf vs w hC (fun m hm => hIn m fun k hk => by rw [hm k] at hk; cases hk) fun j hj hd => hg j hj (hall j hj) (fun k hk => by rw [hd k] at hk; cases hk)
  have all_of : ∀ listed : Array Bool, listed.size = ops.size → Region.ready .any ops listed = [] → ∀ j, j < ops.size → listed.getD j false = true := by
    intro listed hsz hr j
    induction j using Nat.strongRecOn with
    | _ j ih =>
      intro hj
      cases hb : listed.getD j false with
      | true => rfl
      | false =>
        have hm : j ∈ Region.ready .any ops listed := by
          rw [mem_ready]
          refine ⟨?_, ops[j], by simp [hj], fun e he hbe => ?_⟩
          · have : j < listed.size := by omega
            simpa [this] using hb
          · have hlt := (planC_spec hp (show ops[j]? = some ops[j] by simp [hj])).2.2.1 e he hbe
            exact ih e.on hlt (by omega)
        rw [hr] at hm
        cases hm
  intro fuel
  induction fuel with
  | zero =>
    intro listed a w hsz hop hI
    have hall := unlisted_none (l := listed) ops.size (by omega)
    refine ⟨?_, fin listed a w hall hI⟩
    cases hr : Region.ready .any ops listed with
    | nil => rfl
    | cons x xs =>
      have hm : x ∈ Region.ready .any ops listed := by rw [hr]; exact List.mem_cons_self
      rw [mem_ready] at hm
      obtain ⟨h0, o, ho, _⟩ := hm
      have hx : x < ops.size := (Array.getElem?_eq_some_iff.1 ho).1
      have h1 := hall x hx
      have hxl : x < listed.size := by omega
      simp [hxl] at h0 h1
      rw [h0] at h1
      cases h1
  | succ fuel ih =>
    intro listed a w hsz hop hI
    refine ⟨fun hr => fin listed a w (all_of listed hsz hr) hI, ?_⟩
    intro i hi
    rw [mem_ready] at hi
    obtain ⟨h0, o, ho, hedge⟩ := hi
    have hlt : i < ops.size := (Array.getElem?_eq_some_iff.1 ho).1
    have hil : i < listed.size := by omega
    have h0' : listed.getD i false = false := by simpa [hil] using h0
    obtain ⟨vs, rfl, hC, hcl, hIn, hg⟩ := hI
    obtain ⟨p1, p2, p3, p4⟩ := planC_spec hp ho
    have young : ∀ (D : Nat → Nat → Bool) j, freshB ops D i j = true → ∀ k, D j k = true → listed.getD k false = false := by
      intro D j hd k hk
      cases hlk : listed.getD k false with
      | false => rfl
      | true =>
        have hks : k < ops.size := by
          rcases Nat.lt_or_ge k ops.size with q | q
          · exact q
          · have : ¬ k < listed.size := by omega
            simp [this] at hlk
        rcases freshB_spec hd hks hk with e | ⟨ok, hok, e, he, hb, hon⟩ | ⟨q, hkq, hqi⟩
        · subst e; rw [h0'] at hlk; cases hlk
        · have := hcl k ok hlk hok e he hb
          rw [hon, h0'] at this
          cases this
        · obtain ⟨ok, hok, e, he, hb, hon⟩ := waitsB_spec hkq
          have hq := hcl k ok hlk hok e he hb
          rw [hon] at hq
          obtain ⟨oq, hoq, e2, he2, hb2, hon2⟩ := waitsB_spec hqi
          have := hcl q oq hq hoq e2 he2 hb2
          rw [hon2, h0'] at this
          cases this
    have hdo := hs i o ho vs w hC (fun m hm => hIn m (young ends m hm)) (fun e he hb hd => hg e.on (by have := p3 e he hb; omega) (hedge e he hb) (young dies e.on hd))
    have unl : ∀ j, lateB ops j i = true → listed.getD j false = false := by
      intro k hk
      cases hlk : listed.getD k false with
      | false => rfl
      | true =>
        unfold lateB at hk
        rw [Bool.or_eq_true] at hk
        rcases hk with hk | hk
        · obtain ⟨ok, hok, e, he, hb, hon⟩ := waitsB_spec hk
          have := hcl k ok hlk hok e he hb
          rw [hon, h0'] at this
          cases this
        · obtain ⟨q, _, hq⟩ := List.any_eq_true.1 hk
          rw [Bool.and_eq_true] at hq
          obtain ⟨ok, hok, e, he, hb, hon⟩ := waitsB_spec hq.1
          have hq2 := hcl k ok hlk hok e he hb
          rw [hon] at hq2
          obtain ⟨oq, hoq, e2, he2, hb2, hon2⟩ := waitsB_spec hq.2
          have := hcl q oq hq2 hoq e2 he2 hb2
          rw [hon2, h0'] at this
          cases this
    have hex : execOp (laidBy ops vs (fun j => listed.getD j false) ops.size a0).eval o = execOp (laidBy ops vs (fun j => !lateB ops j i) ops.size a0).eval o := by
      refine execOp_congr o p2 fun x hx => laidBy_eval2 ops vs _ _ x ops.size a0 fun j hj d hd hxd => ?_
      subst hxd
      cases hlj : lateB ops j i with
      | true => simpa using unl j hlj
      | false =>
        rcases (p4 j hj d hd).2 (by simpa using hx) with ⟨e, he, hb, rfl⟩ | q
        · simpa using hedge e he hb
        · rw [hlj] at q; cases q
    have go : ∀ v w', (good i v (if mate i = i then v else vs (mate i)) w' ∧ C w' ∧ Ext i w w') → wpAny P .any ops Q fuel (listed.setIfInBounds i true) ((laidBy ops vs (fun j => listed.getD j false) ops.size a0).put o.dst v) w' := by
      rintro v w' ⟨g1, g2, g3⟩
      have hdst : dstAt ops i = o.dst := by unfold dstAt; rw [ho]; rfl
      have hnew : (fun j => (listed.setIfInBounds i true).getD j false) = mark (fun j => listed.getD j false) i := by
        funext j
        by_cases hj : j = i
        · subst hj; simp [mark, hil]
        · rw [getD_set_ne false (by omega)]; simp [mark, hj]
      refine ih _ _ _ (by simpa using hsz) (by have := unlisted_set hil h0' ops.size hlt; omega) ⟨upd vs i v, ?_, g2, ?_, ?_, ?_⟩
      · rw [← hdst, hnew]
        exact laidBy_put ops hdist vs _ i h0' v ops.size hlt a0
      · intro j oj hlj hoj e he hb
        have hset : ∀ k, listed.getD k false = true → (listed.setIfInBounds i true).getD k false = true := by
          intro k hk
          by_cases hki : k = i
          · subst hki; simp [hil]
          · rw [getD_set_ne false (by omega)]; exact hk
        by_cases hji : j = i
        · subst hji
          rw [ho] at hoj
          cases hoj
          exact hset _ (hedge e he hb)
        · rw [getD_set_ne false (by omega)] at hlj
          exact hset _ (hcl j oj hlj hoj e he hb)
      · intro m hm
        refine hinit i m w w' ?_ g3 (hIn m fun k hk => ?_)
        · cases hd : ends m i with
          | false => rfl
          | true =>
            have := hm i hd
            simp [hil] at this
        · have hk2 := hm k hk
          by_cases hki : k = i
          · subst hki; exact h0'
          · rw [getD_set_ne false (by omega)] at hk2
            exact hk2
      · intro j hj hlj hdj
        by_cases hji : j = i
        · subst hji
          by_cases hmj : mate j = j
          · rw [if_pos hmj] at g1
            rw [hmj]
            simpa [upd] using g1
          · rw [if_neg hmj] at g1
            have e1 : upd vs j v (mate j) = vs (mate j) := by simp [upd, hmj]
            have e2 : upd vs j v j = v := by simp [upd]
            rw [e1, e2]
            exact g1
        · rw [getD_set_ne false (by omega)] at hlj
          have : upd vs i v j = vs j := by simp [upd, hji]
          have hm2 : upd vs i v (mate j) = vs (mate j) := by
            by_cases hmi : mate j = i
            · rcases hmate j with h | ⟨oj, hoj, e, he, hb, h⟩
              · exact absurd (h.symm.trans hmi) hji
              · have := hcl j oj hlj hoj e he hb
                rw [h, hmi, h0'] at this
                cases this
            · simp [upd, hmi]
          rw [this, hm2]
          refine hext i j _ _ w w' (fun h => hji h.symm) ?_ ?_ g3 (hg j hj hlj (fun k hk => ?_))
          · cases hd : dies j i with
            | false => rfl
            | true =>
              have := hdj i hd
              simp [hil] at this
          · cases hwt : waitsB ops j i with
            | false => rfl
            | true =>
              obtain ⟨oj, hoj, e, he, hb, hon⟩ := waitsB_spec hwt
              have := hcl j oj hlj hoj e he hb
              rw [hon, h0'] at this
              cases this
          · have hk2 := hdj k hk
            by_cases hki : k = i
            · subst hki; exact h0'
            · rw [getD_set_ne false (by omega)] at hk2
              exact hk2
    unfold wpOp
    simp only [ho]
    have hwant : Region.wanted o (yielded ops (laidBy ops vs (fun j => listed.getD j false) ops.size a0).tmps) = true := by simp [Region.wanted, p1]
    rw [if_pos hwant]
    left
    unfold Oper.wp
    rw [hex]
    unfold Does at hdo
    generalize (execOp (laidBy ops vs (fun j => !lateB ops j i) ops.size a0).eval o).run P w = r at *
    cases r with
    | ok n w' =>
      cases n <;> simp only [Oper.upon] <;> simp only at hdo
      case value u => exact go _ _ hdo
      case skip => exact go _ _ hdo
      case enter f args =>
        refine Calls.mono hdo ?_
        rintro e w'' ⟨v, rfl, h⟩
        exact go _ _ h
    | halt x w' => simp only at hdo

/-- the rule: a region that draws its order, by what holds of each operation's value -/
theorem wp_region_late0 {id : Nat} {a : Act} {w : World} (hm : P.follows .mixedOrders = true) (hp : planC ops = true) (C : World → Prop) (good : Nat → Value → Value → World → Prop) (mate : Nat → Nat) (dies : Nat → Nat → Bool) (Ext : Nat → World → World → Prop) (init : Nat → World → Prop) (ends : Nat → Nat → Bool) (hinit : ∀ i m w w', ends m i = false → Ext i w w' → init m w → init m w') (hmate : ∀ i, mate i = i ∨ ∃ o, ops[i]? = some o ∧ ∃ e ∈ o.after, Region.binds .any e = true ∧ e.on = mate i)
    (hext : ∀ i j v u w w', i ≠ j → dies j i = false → waitsB ops j i = false → Ext i w w' → good j v u w → good j v u w') (hC : C { w with drawn := w.drawn + 1 }) (hI : ∀ m, init m { w with drawn := w.drawn + 1 })
    (hs : ∀ i o, ops[i]? = some o → ∀ vs w, C w → (∀ m, freshB ops ends i m = true → init m w) → (∀ e ∈ o.after, Region.binds .any e = true → freshB ops dies i e.on = true → good e.on (vs e.on) (vs (mate e.on)) w) → Does P o (laidBy ops vs (fun j => !lateB ops j i) ops.size a) w fun v w' => good i v (if mate i = i then v else vs (mate i)) w' ∧ C w' ∧ Ext i w w')
    (hf : ∀ vs w, C w → (∀ m, (∀ k, ends m k = false) → init m w) → (∀ j, j < ops.size → (∀ k, dies j k = false) → good j (vs j) (vs (mate j)) w) → Q .normal (laidBy ops vs (fun _ => true) ops.size a) w) : (Code.region id ops true).wp P Q a w := by
  refine wp_region_any hm (wpAny_late hp a C good mate dies Ext init ends hinit hmate hext hs hf ops.size _ a _ (by simp) (open_all _ _) ⟨fun _ => undef, ?_, hC, ?_, fun m _ => hI m, ?_⟩)
  · have : ∀ n, laidBy ops (fun _ => undef) (fun j => (Array.replicate ops.size false).getD j false) n a = a := by
      intro n
      induction n with
      | zero => rfl
      | succ n ih =>
        rw [laidBy, if_neg, ih]
        by_cases h : n < ops.size <;> simp [h]
    exact (this _).symm
  · intro j o hl ho
    have hj : j < ops.size := (Array.getElem?_eq_some_iff.1 ho).1
    simp [hj] at hl
  · intro j hj hl
    simp [hj] at hl

/-- where an operation's value lies when those that are listed are done -/
theorem laidBy_at2 (hp : planC ops = true) (vs : Nat → Value) (l : Nat → Bool) (a : Act) {j : Nat} {d : Tmp} (hl : l j = true) (hd : dstAt ops j = some d) (hs : d < a.tmps.size) (n : Nat) (hn : j < n) (hno : n ≤ ops.size) : (laidBy ops vs l n a).eval (.tmp d) = vs j := by
  induction n with
  | zero => omega
  | succ n ih =>
    rw [laidBy]
    rcases Nat.lt_or_ge j n with q | q
    · split
      · rw [Act.eval_put, ih q (by omega)]
        intro d' hd' e
        cases e
        cases ho : ops[n]? with
        | none => unfold dstAt at hd'; rw [ho] at hd'; cases hd'
        | some o =>
          have h1 : o.dst = some d := by unfold dstAt at hd'; rw [ho] at hd'; exact hd'
          exact ((planC_spec hp ho).2.2.2 j (by omega) d hd).1 (by omega) h1
      · exact ih q (by omega)
    · obtain rfl : j = n := by omega
      rw [if_pos hl, hd]
      exact eval_put_here _ _ _ (by rw [laidBy_size]; exact hs)
theorem laidBy_base2 (vs : Nat → Value) (l : Nat → Bool) (a : Act) {x : Operand} (n : Nat) (h : ∀ j, j < n → ∀ d, dstAt ops j = some d → x = .tmp d → l j = false) : (laidBy ops vs l n a).eval x = a.eval x := by
  induction n with
  | zero => rfl
  | succ n ih =>
    rw [laidBy]
    have ih' := ih fun j hj => h j (by omega)
    split
    · rename_i hl
      rw [Act.eval_put (fun d hd hx => by rw [h n (by omega) d hd hx] at hl; cases hl)]
      exact ih'
    · exact ih'
theorem late_of {d : Tmp} {i : Nat} (h : ((List.range ops.size).all fun j => dstAt ops j != some d || lateB ops j i) = true) : ∀ j, j < ops.size → dstAt ops j = some d → lateB ops j i = true := by
  intro j hj e
  rw [List.all_eq_true] at h
  have := h j (List.mem_range.2 hj)
  simpa [e] using this

/-- the rule, one operation at a time: what an operation reads is what was said of it -/
theorem wp_region_late {id : Nat} {a : Act} {w : World} (hm : P.follows .mixedOrders = true) (hp : planC ops = true) {N : Nat} (hN : a.tmps.size = N) (hr : roomB ops N = true) (C : World → Prop) (good : Nat → Value → Value → World → Prop) (mate : Nat → Nat) (dies : Nat → Nat → Bool) (Ext : Nat → World → World → Prop) (init : Nat → World → Prop) (ends : Nat → Nat → Bool) (hinit : ∀ i m w w', ends m i = false → Ext i w w' → init m w → init m w') (slot : Nat → Nat) (hmb : mateB ops mate slot = true) (hout : ∀ i, ops.size ≤ i → mate i = i)
    (hext : ∀ i j v u w w', i ≠ j → dies j i = false → waitsB ops j i = false → Ext i w w' → good j v u w → good j v u w') (hC : C { w with drawn := w.drawn + 1 }) (hI : ∀ m, init m { w with drawn := w.drawn + 1 })
    (hs : eachFrom (fun i o => ∀ (A : Act) (w : World), C w → (∀ m, freshB ops ends i m = true → init m w) → (∀ j d, j < ops.size → dstAt ops j = some d → Operand.tmp d ∈ o.op.operands → lateB ops j i = false → freshB ops dies i j = true → mate j = j → good j (A.eval (.tmp d)) (A.eval (.tmp d)) w) → (∀ d, (∀ j, j < ops.size → dstAt ops j = some d → lateB ops j i = true) → A.eval (.tmp d) = a.eval (.tmp d)) → Does P o A w fun v w' => good i v (if mate i = i then v else A.eval (.tmp (slot i))) w' ∧ C w' ∧ Ext i w w') 0 ops.toList)
    (hf : ∀ vs w, C w → (∀ m, (∀ k, ends m k = false) → init m w) → (∀ j, j < ops.size → (∀ k, dies j k = false) → good j (vs j) (vs (mate j)) w) → Q .normal (laidBy ops vs (fun _ => true) ops.size a) w) : (Code.region id ops true).wp P Q a w := by
  refine wp_region_late0 hm hp C good mate dies Ext init ends hinit (mateB_edge hmb hout) hext hC hI ?_ hf
  intro i o ho vs w hCw hiw hg
  have hS := eachFrom_at ops.toList 0 i o hs (by simpa using ho)
  rw [Nat.zero_add] at hS
  have room : ∀ j d, j < ops.size → dstAt ops j = some d → d < a.tmps.size := by
    intro j d hj hd
    unfold roomB at hr
    rw [List.all_eq_true] at hr
    have := hr j (List.mem_range.2 hj)
    simp only [hd, decide_eq_true_eq] at this
    rw [hN]
    exact this
  have hi : i < ops.size := (Array.getElem?_eq_some_iff.1 ho).1
  have hsl : mate i ≠ i → (laidBy ops vs (fun j => !lateB ops j i) ops.size a).eval (.tmp (slot i)) = vs (mate i) := by
    intro hne
    obtain ⟨h1, h2⟩ := mateB_slot hmb hi hne
    refine laidBy_at2 hp vs _ a ?_ h1 (room _ _ h2 h1) ops.size h2 (Nat.le_refl _)
    rcases mateB_edge hmb hout i with h3 | ⟨oi, hoi, e, he, hb, hon⟩
    · exact absurd h3 hne
    · have h4 := (planC_spec hp hoi).2.2.1 e he hb
      cases h5 : lateB ops (mate i) i with
      | false => rfl
      | true => have := lateB_lt hp h5; omega
  have hdone := hS (laidBy ops vs (fun j => !lateB ops j i) ops.size a) w hCw hiw ?_ ?_
  · refine does_mono hdone fun v w' ⟨g1, g2, g3⟩ => ⟨?_, g2, g3⟩
    by_cases hmi : mate i = i
    · rw [if_pos hmi] at g1 ⊢
      exact g1
    · rw [if_neg hmi] at g1 ⊢
      rw [hsl hmi] at g1
      exact g1
  · intro j d hj hd hmem hnl hdie hmj
    have hsz : d < a.tmps.size := room j d hj hd
    rw [laidBy_at2 hp vs _ a (by rw [hnl]; rfl) hd hsz ops.size hj (Nat.le_refl _)]
    rcases ((planC_spec hp ho).2.2.2 j hj d hd).2 hmem with ⟨e, he, hb, rfl⟩ | q
    · have := hg e he hb hdie
      rw [hmj] at this
      exact this
    · rw [hnl] at q; cases q
  · intro d hd
    refine laidBy_base2 vs _ a ops.size fun j hj d' hd' e => ?_
    cases e
    rw [hd j hj hd']
    rfl

/-- the same; of the frame just what is read is named -/
theorem wp_region_late_b {id : Nat} {a : Act} {w : World} (hm : P.follows .mixedOrders = true) (hp : planC ops = true) {N : Nat} (hN : a.tmps.size = N) (hr : roomB ops N = true) (bs : List (Nat × Value)) (hbs : ∀ p ∈ bs, a.eval (.tmp p.1) = p.2) (C : World → Prop) (good : Nat → Value → Value → World → Prop) (mate : Nat → Nat) (dies : Nat → Nat → Bool) (Ext : Nat → World → World → Prop) (init : Nat → World → Prop) (ends : Nat → Nat → Bool) (hinit : ∀ i m w w', ends m i = false → Ext i w w' → init m w → init m w') (slot : Nat → Nat) (hmb : mateB ops mate slot = true) (hout : ∀ i, ops.size ≤ i → mate i = i)
    (hext : ∀ i j v u w w', i ≠ j → dies j i = false → waitsB ops j i = false → Ext i w w' → good j v u w → good j v u w') (hC : C { w with drawn := w.drawn + 1 }) (hI : ∀ m, init m { w with drawn := w.drawn + 1 })
    (hs : eachFrom (fun i o => ∀ (A : Act) (w : World), C w → (∀ m, freshB ops ends i m = true → init m w) → (∀ j d, j < ops.size → dstAt ops j = some d → Operand.tmp d ∈ o.op.operands → lateB ops j i = false → freshB ops dies i j = true → mate j = j → good j (A.eval (.tmp d)) (A.eval (.tmp d)) w) → (∀ d v, (d, v) ∈ bs → (∀ j, j < ops.size → dstAt ops j = some d → lateB ops j i = true) → A.eval (.tmp d) = v) → Does P o A w fun v w' => good i v (if mate i = i then v else A.eval (.tmp (slot i))) w' ∧ C w' ∧ Ext i w w') 0 ops.toList)
    (hf : ∀ vs w, C w → (∀ m, (∀ k, ends m k = false) → init m w) → (∀ j, j < ops.size → (∀ k, dies j k = false) → good j (vs j) (vs (mate j)) w) → Q .normal (laidBy ops vs (fun _ => true) ops.size a) w) : (Code.region id ops true).wp P Q a w :=
  wp_region_late hm hp hN hr C good mate dies Ext init ends hinit slot hmb hout hext hC hI (eachFrom_mono (fun _ _ h A w hc hi hg hb => h A w hc hi hg (fun d v hm' hl => (hb d hl).trans (hbs (d, v) hm'))) ops.toList 0 hs) hf
end
end Go.Proofs.YtoanhjjigbjecaaGreatDoor

namespace Go.Proofs.YtoanhjjigbjecaaGreatDoor
open Go.RowKit

set_option maxRecDepth 1000000 in
set_option maxHeartbeats 1000000 in
theorem specKeepNew_any (w : World) :
    Calls Tryz.prog 53 #[] w fun e w' => ∃ g, e = .returned (.agg #[.slice none 0 0, .slice (some ⟨g, 0, none⟩) 1 1]) ∧ w.heap.size ≤ g ∧ BlockIs w' g 89 [.string ⟨#[114, 111, 111, 116]⟩, .string ⟨#[]⟩, .int .i64 1] ∧ Below w.heap.size w w' := by
  have hs : (w.alloc (.cells #[.slice none 0 0, .slice (some ⟨w.heap.size + 1, 0, none⟩) 1 1] 56)).heap.size = w.heap.size + 1 := by simp [World.alloc, -World.alloc_eq]
  have h2 := heap_alloc_new (w.alloc (.cells #[.slice none 0 0, .slice (some ⟨w.heap.size + 1, 0, none⟩) 1 1] 56)) (.cells #[.string ⟨#[114, 111, 111, 116]⟩, .string ⟨#[]⟩, .int .i64 1] 89)
  rw [hs] at h2
  have H := hid (And.intro (below_more (below_more (Below.refl _ w) (.cells #[.slice none 0 0, .slice (some ⟨w.heap.size + 1, 0, none⟩) 1 1] 56)) (.cells #[.string ⟨#[114, 111, 111, 116]⟩, .string ⟨#[]⟩, .int .i64 1] 89)) (show BlockIs _ (w.heap.size + 1) 89 [.string ⟨#[114, 111, 111, 116]⟩, .string ⟨#[]⟩, .int .i64 1] from h2))
  clear hs h2
  go_enter Tryz.func53, Tryz.ntmps53
  go_wp2
  refine bodyPost_ret (v := .agg #[.slice none 0 0, .slice (some ⟨w.heap.size + 1, 0, none⟩) 1 1]) (by simp [results, Tryz.results53, go_sem]) rfl ⟨_, rfl, Nat.le_succ _, H.out.2, H.out.1⟩
end Go.Proofs.YtoanhjjigbjecaaGreatDoor
