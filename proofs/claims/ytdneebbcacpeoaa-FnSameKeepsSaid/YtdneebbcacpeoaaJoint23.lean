/-
  The walk of spec.Perform: what it answers.
-/
import Derived.Test.YtdneebbcacpeoaaJoint1
import Derived.Test.YtdneebbcacpeoaaJoint16
import Derived.Test.YtdneebbcacpeoaaJoint18
import Derived.Test.YtdneebbcacpeoaaJoint21
import Derived.Test.YtdneebbcacpeoaaJoint22
import Derived.Test.YtdneebbcacpeoaaJoint11
import Derived.BigQuiet
import Derived.Deep.QuietTactic
import Derived.Deep.LoopGhost
import Derived.OwnWalk
import Derived.WalkKit
namespace Go.Proofs.Ytdneebbcacpeoaa
open Go.RowKit

set_option maxRecDepth 1000000 in
set_option maxHeartbeats 8000000 in
theorem specPerform_any (ao bo : Option Addr) (ls : List SessionD) (li : List ItemD) (ac bc : Nat) (index : Int) (x : CommandD) (hl : ls.length ≤ 1048576) (hl2 : li.length ≤ 1048576) (w : World) (ha : SessionsAt w ao ls) (hi : ItemsAt w bo li) :
    Calls Try.prog 26 #[.agg #[.slice ao ls.length ac, .slice bo li.length bc], .int .i64 index, .agg #[.int .i64 x.op, .int .i64 x.token, .int .i64 x.seq, .string x.key, .string x.val, .int .i64 x.ver]] w fun e w' => PerfDid (performD ls li index x) w e w' := by
  have h3 := four_log w (.cells #[.slice ao ls.length ac, .slice bo li.length bc] 27) (.cells #[.int .i64 x.op, .int .i64 x.token, .int .i64 x.seq, .string x.key, .string x.val, .int .i64 x.ver] 62) (.cells #[.slice none 0 0, .slice none 0 0] 27)
  obtain ⟨W0, hW0⟩ : ∃ W, ((w.alloc (.cells #[.slice ao ls.length ac, .slice bo li.length bc] 27)).alloc (.cells #[.int .i64 x.op, .int .i64 x.token, .int .i64 x.seq, .string x.key, .string x.val, .int .i64 x.ver] 62)).alloc (.cells #[.slice none 0 0, .slice none 0 0] 27) = W := ⟨_, rfl⟩
  rw [hW0] at h3
  obtain ⟨hb0, hx0, hx1, hx2⟩ := h3
  have B0 := hid hb0
  have X0 := hid (show BlockIs W0 w.heap.size 27 [.slice ao ls.length ac, .slice bo li.length bc] from hx0)
  have X1 := hid (show BlockIs W0 (w.heap.size + 1) 62 [.int .i64 x.op, .int .i64 x.token, .int .i64 x.seq, .string x.key, .string x.val, .int .i64 x.ver] from hx1)
  have X2 := hid (show BlockIs W0 (w.heap.size + 1 + 1) 27 [.slice none 0 0, .slice none 0 0] from hx2)
  have HS := hid (ha.on hb0)
  have HI := hid (hi.on hb0)
  have n0 := fun w => l01In_any index 1 1000000 w
  have n1 := fun w => specCommandOk_any x w
  have n2 := fun W hA hI => specKeepOk_any ao bo ls li ac bc hl hl2 W hA hI
  have a0 := X0.out.cell (j := 0) rfl
  have a1 := X0.out.cell (j := 1) rfl
  have ha0 := ha
  have hi0 := hi
  clear hb0 hx0 hx1 hx2 ha hi
  have NO : Hid (∀ (wa : World) (PP : Prop), performD ls li index x = ⟨[], [], ⟨#[]⟩, false⟩ → Below W0.heap.size W0 wa → (PerfDid (performD ls li index x) w (.returned (.tuple #[.agg #[.slice none 0 0, .slice none 0 0], .string ⟨#[]⟩, .bool false])) ((wa.setCell ⟨w.heap.size + 1 + 1, 0, none⟩ (.slice none 0 0)).setCell ⟨w.heap.size + 1 + 1, 1, none⟩ (.slice none 0 0)) → PP) → PP) := by
    intro wa PP h1 h2 h3
    refine h3 ?_
    rw [h1]
    exact perf_none (((below_via B0.out h2).setCell (p := ⟨w.heap.size + 1 + 1, 0, none⟩) (by show _ ≤ _ + 1 + 1; omega) _).setCell (p := ⟨w.heap.size + 1 + 1, 1, none⟩) (by show _ ≤ _ + 1 + 1; omega) _)
  have HA0 := hid ha0
  have HI0 := hid hi0
  clear ha0 hi0
  go_enter Try.func26, Try.ntmps26
  go_wp2_with fail
  refine Calls.mono (n2 _ HS.out HI.out) ?_
  rintro e wk ⟨rfl, bk⟩
  have BK := hid bk
  have x0 := (X1.out.on bk X1.out.lt).cell (j := 0) rfl
  have x1 := (X1.out.on bk X1.out.lt).cell (j := 1) rfl
  have x2 := (X1.out.on bk X1.out.lt).cell (j := 2) rfl
  have x3 := (X1.out.on bk X1.out.lt).cell (j := 3) rfl
  have x4 := (X1.out.on bk X1.out.lt).cell (j := 4) rfl
  have x5 := (X1.out.on bk X1.out.lt).cell (j := 5) rfl
  clear bk n2
  cases hko : keepOk ls li with
  | false =>
    have r0 := (X2.out.on BK.out X2.out.lt).cell (j := 0) rfl
    have r1 := (X2.out.on BK.out X2.out.lt).cell (j := 1) rfl
    have f0 := (X2.out.on BK.out X2.out.lt).thaw 0
    have f1 := (X2.out.on BK.out X2.out.lt).thaw 1
    go_wp2
    refine bodyPost_ret (v := .tuple #[.agg #[.slice none 0 0, .slice none 0 0], .string ⟨#[]⟩, .bool false]) (by simp [results, Try.results26, go_sem, r0, r1]) rfl ?_
    exact NO.out _ _ (by rw [performD, if_neg (by simp [mayDo, hko])]) BK.out id
  | true =>
    cases hwi : within index 1 1000000 with
    | false =>
      rw [hwi] at n0
      have m0 := hid n0
      clear n0
      have r0 := (X2.out.on BK.out X2.out.lt).cell (j := 0) rfl
      have r1 := (X2.out.on BK.out X2.out.lt).cell (j := 1) rfl
      have f0 := (X2.out.on BK.out X2.out.lt).thaw 0
      have f1 := (X2.out.on BK.out X2.out.lt).thaw 1
      have hwn : within index 1 400000 = false := by simp only [within, Bool.and_eq_false_iff, decide_eq_false_iff_not] at hwi ⊢; omega
      go_wp2_with (first | (go_at_call 24; with_reducible refine Calls.mono (m0.out _) ?_; rintro e w1 ⟨rfl, hw⟩; rw [hw]; clear hw w1))
      refine bodyPost_ret (v := .tuple #[.agg #[.slice none 0 0, .slice none 0 0], .string ⟨#[]⟩, .bool false]) (by simp [results, Try.results26, go_sem, r0, r1]) rfl ?_
      exact NO.out _ _ (by rw [performD, if_neg (by simp [mayDo, hwn])]) BK.out id
    | true =>
      rw [hwi] at n0
      have m0 := hid n0
      clear n0
      by_cases h4 : (400000 : Int) < index
      · have hwn : within index 1 400000 = false := by simp only [within, Bool.and_eq_false_iff, decide_eq_false_iff_not]; omega
        have r0 := (X2.out.on BK.out X2.out.lt).cell (j := 0) rfl
        have r1 := (X2.out.on BK.out X2.out.lt).cell (j := 1) rfl
        have f0 := (X2.out.on BK.out X2.out.lt).thaw 0
        have f1 := (X2.out.on BK.out X2.out.lt).thaw 1
        go_wp2_with (first | (go_at_call 24; with_reducible refine Calls.mono (m0.out _) ?_; rintro e w1 ⟨rfl, hw⟩; rw [hw]; clear hw w1))
        refine bodyPost_ret (v := .tuple #[.agg #[.slice none 0 0, .slice none 0 0], .string ⟨#[]⟩, .bool false]) (by simp [results, Try.results26, go_sem, r0, r1]) rfl ?_
        exact NO.out _ _ (by rw [performD, if_neg (by simp [mayDo, hwn])]) BK.out id
      · cases hco : commandOk x with
        | false =>
          rw [hco] at n1
          go_wp2_with (first | (go_at_call 24; with_reducible refine Calls.mono (m0.out _) ?_; rintro e w1 ⟨rfl, hw⟩; rw [hw]; clear hw w1) | fail)
          refine Calls.mono (n1 _) ?_
          rintro e wc ⟨rfl, bc'⟩
          have BC := hid (below_via BK.out bc')
          clear bc'
          have r0 := (X2.out.on BC.out X2.out.lt).cell (j := 0) rfl
          have r1 := (X2.out.on BC.out X2.out.lt).cell (j := 1) rfl
          have f0 := (X2.out.on BC.out X2.out.lt).thaw 0
          have f1 := (X2.out.on BC.out X2.out.lt).thaw 1
          go_wp2
          refine bodyPost_ret (v := .tuple #[.agg #[.slice none 0 0, .slice none 0 0], .string ⟨#[]⟩, .bool false]) (by simp [results, Try.results26, go_sem, r0, r1]) rfl ?_
          exact NO.out _ _ (by rw [performD, if_neg (by simp [mayDo, hco])]) BC.out id
        | true =>
          rw [hco] at n1
          have hwn : within index 1 400000 = true := by simp only [within, Bool.and_eq_true, decide_eq_true_eq] at hwi ⊢; omega
          have HP : Hid (performD ls li index x = doneD ls li index x) := by show _ = _; rw [performD, if_pos (by simp [mayDo, hko, hwn, hco])]
          obtain ⟨⟨hasc, hsf, hl3⟩, hasc2, hif, hl8⟩ := keep_facts hko
          obtain ⟨hops, htk, hsq⟩ := command_ops hco
          have hi0 : 1 ≤ index := by simp only [within, Bool.and_eq_true, decide_eq_true_eq] at hwi; omega
          have hi1 : index ≤ 400000 := by omega
          clear hwi hwn hko hco
          go_wp2_with (first | (go_at_call 24; with_reducible refine Calls.mono (m0.out _) ?_; rintro e w1 ⟨rfl, hw⟩; rw [hw]; clear hw w1) | fail)
          refine Calls.mono (n1 _) ?_
          rintro e wc ⟨rfl, bc'⟩
          have BC := hid (below_via BK.out bc')
          clear bc' n1 m0 x0 x1 x2 x3 x4 x5 a0 a1
          have x0 := (X1.out.on BC.out X1.out.lt).cell (j := 0) rfl
          have x1 := (X1.out.on BC.out X1.out.lt).cell (j := 1) rfl
          have x2 := (X1.out.on BC.out X1.out.lt).cell (j := 2) rfl
          have x3 := (X1.out.on BC.out X1.out.lt).cell (j := 3) rfl
          have x4 := (X1.out.on BC.out X1.out.lt).cell (j := 4) rfl
          have x5 := (X1.out.on BC.out X1.out.lt).cell (j := 5) rfl
          have a0 := (X0.out.on BC.out X0.out.lt).cell (j := 0) rfl
          have a1 := (X0.out.on BC.out X0.out.lt).cell (j := 1) rfl
          have BW := hid (below_via B0.out BC.out)
          have Y0 := hid (X0.out.on BC.out X0.out.lt)
          have Y1 := hid (X1.out.on BC.out X1.out.lt)
          have Y2 := hid (X2.out.on BC.out X2.out.lt)
          have SC := hid (HS.out.on BC.out)
          have IC := hid (HI.out.on BC.out)
          have hbase : w.heap.size + 1 + 1 < wc.heap.size := Nat.lt_of_lt_of_le Y2.out.lt (Nat.le_refl _)
          clear X0 X1 X2 HS HI B0 BK BC NO hW0
          have CC := hid (fun W hA hI => l15Copy_any ao bo ls li ac bc hl hl2 W hA hI)
          by_cases o1 : x.op = 1
          · go_wp2_with fail
            refine Calls.mono (l15Open_any ao bo ls li ac bc index (by omega) hi1 hl3 hl8 _ SC.out IC.out) ?_
            rintro e wd ⟨va, vc, vb, vd, rfl, kd, bd⟩
            have HDO : Hid (doneD ls li index x = ⟨openedD ls index, li, txt [111, 112, 101, 110, 32] ++ decT index, true⟩) := by show _ = _; rw [doneD, if_pos o1]
            have bn := below_more (Below.refl wd.heap.size wd) (.cells #[.slice va (openedD ls index).length vc, .slice vb li.length vd] 27)
            have hY := (Y2.out.on (below_via bd bn) Y2.out.lt)
            have kd' := (kd.on bn).down (show w.heap.size ≤ _ from BW.out.size)
            have BD := below_via BW.out (below_via bd bn)
            have r0 := hY.cell (j := 0) rfl
            have r1 := hY.cell (j := 1) rfl
            have f0 := hY.thaw 0
            have f1 := hY.thaw 1
            have BE := hid (((BD).setCell (p := ⟨w.heap.size + 1 + 1, 0, none⟩) (by show _ ≤ _ + 1 + 1; omega) (.slice va (openedD ls index).length vc)).setCell (p := ⟨w.heap.size + 1 + 1, 1, none⟩) (by show _ ≤ _ + 1 + 1; omega) (.slice vb li.length vd))
            have KE := hid ((KRows.far (j := 0) kd' hY (by decide) (by decide) (.slice va (openedD ls index).length vc)).far (j := 1) (hY.set 0 (.slice va (openedD ls index).length vc)) (by decide) (by decide) (.slice vb li.length vd))
            clear kd bd bn hY kd' BD
            go_wp2
            refine bodyPost_ret (v := .tuple #[.agg #[.slice va (openedD ls index).length vc, .slice vb li.length vd], .string (txt [111, 112, 101, 110, 32] ++ decT index), .bool true]) (by simp [results, Try.results26, go_sem, r0, r1]) rfl ?_
            rw [HP.out, HDO.out]
            exact ⟨va, vc, vb, vd, rfl, KE.out, BE.out⟩
          · have HDO : Hid (doneD ls li index x = match sessOf ls x.token with | none => ⟨ls, li, txt [110, 111, 110, 101], true⟩ | some s => askD ls li index x s) := by show _ = _; rw [doneD, if_neg o1]; rfl
            skip
            go_wp2
            go_loopg [11, 12] ls.length (fun g v i wr => ∃ (k : Nat) (z : Int), k + g = ls.length ∧ v = .int .i64 z ∧ i = .int .i64 k ∧ Hid ((z = -1 ∧ ∀ j (hj : j < ls.length), j < k → ls[j].token ≠ x.token) ∨ ∃ (p : Nat) (hp : p < ls.length), p < k ∧ z = (p : Int) ∧ ls[p].token = x.token) ∧ Hid (Below wc.heap.size wc wr))
            case atStart => exact ⟨0, -1, by omega, rfl, rfl, Or.inl ⟨rfl, fun _ _ h => absurd h (by omega)⟩, Below.refl _ _⟩
            case round =>
              obtain ⟨k, z, hkg, rfl, rfl, HZ, BR⟩ := hrel
              clear x0 x1 x2 x3 x4 x5 a0 a1
              have a0 := (Y0.out.on BR.out Y0.out.lt).cell (j := 0) rfl
              have y1 := (Y1.out.on BR.out Y1.out.lt).cell (j := 1) rfl
              cases gk with
              | zero =>
                have hlt : ¬ (k : Int) < (ls.length : Int) := by omega
                obtain rfl : k = ls.length := by omega
                have BX := hid (below_via BW.out BR.out)
                have Z0 := hid (Y0.out.on BR.out Y0.out.lt)
                have Z1 := hid (Y1.out.on BR.out Y1.out.lt)
                have Z2 := hid (Y2.out.on BR.out Y2.out.lt)
                have SR := hid (SC.out.on BR.out)
                have IR := hid (IC.out.on BR.out)
                have hbr : w.heap.size + 1 + 1 < wr.heap.size := Z2.out.lt
                have a1 := Z0.out.cell (j := 1) rfl
                have y0 := Z1.out.cell (j := 0) rfl
                have y2 := Z1.out.cell (j := 2) rfl
                have y3 := Z1.out.cell (j := 3) rfl
                have y4 := Z1.out.cell (j := 4) rfl
                have y5 := Z1.out.cell (j := 5) rfl
                clear Y0 Y1 Y2 SC IC BW BR hbase
                rcases HZ.out with ⟨rfl, hnone⟩ | ⟨p, hp, _, rfl, htp⟩
                · have HD2 : Hid (doneD ls li index x = ⟨ls, li, txt [110, 111, 110, 101], true⟩) := by show _ = _; rw [HDO.out, sessOf_not (fun j hj => hnone j hj hj)]
                  have hm1 : (-1 : Int) < 0 := by decide
                  go_wp2_with fail
                  refine Calls.mono (CC.out _ SR.out IR.out) ?_
                  rintro e wd ⟨va, vc, vb, vd, rfl, kd, bd⟩
                  have hY := Z2.out.on bd Z2.out.lt
                  have kd' := kd.down (show w.heap.size ≤ _ from BX.out.size)
                  have BD := below_via BX.out bd
                  have r0 := hY.cell (j := 0) rfl
                  have r1 := hY.cell (j := 1) rfl
                  have f0 := hY.thaw 0
                  have f1 := hY.thaw 1
                  have BE := hid (((BD).setCell (p := ⟨w.heap.size + 1 + 1, 0, none⟩) (by show _ ≤ _ + 1 + 1; omega) (.slice va ls.length vc)).setCell (p := ⟨w.heap.size + 1 + 1, 1, none⟩) (by show _ ≤ _ + 1 + 1; omega) (.slice vb li.length vd))
                  have KE := hid ((KRows.far (j := 0) kd' hY (by decide) (by decide) (.slice va ls.length vc)).far (j := 1) (hY.set 0 (.slice va ls.length vc)) (by decide) (by decide) (.slice vb li.length vd))
                  clear kd bd hY kd' BD
                  go_wp2
                  refine bodyPost_ret (v := .tuple #[.agg #[.slice va ls.length vc, .slice vb li.length vd], .string ⟨#[110, 111, 110, 101]⟩, .bool true]) (by simp [results, Try.results26, go_sem, r0, r1]) rfl ?_
                  rw [HP.out, HD2.out]
                  exact ⟨va, vc, vb, vd, rfl, KE.out, BE.out⟩
                · have HD2 : Hid (doneD ls li index x = askD ls li index x ls[p]) := by show _ = _; rw [HDO.out, sessOf_at hasc hp htp]
                  have HTP := hid htp
                  clear htp
                  have hp0 : ¬ (p : Int) < 0 := by omega
                  have hpl : (p : Int) < (ls.length : Int) := by omega
                  have hp0' : (0 : Int) ≤ (p : Int) := by omega
                  obtain ⟨⟨ht1, ht2⟩, ⟨hla1, hla2⟩, hrs⟩ := session_bounds (hsf _ (List.getElem_mem hp))
                  have hne : ls ≠ [] := by intro e; rw [e] at hp; simp at hp
                  obtain ⟨b, off, rfl, hc⟩ := SR.out hne
                  obtain ⟨s0, s1, s2⟩ := hc p hp
                  clear hc
                  have bn := below_more (Below.refl wr.heap.size wr) (.cells #[.int .i64 ls[p].token, .int .i64 ls[p].last, .string ls[p].reply] 41)
                  have nn : BlockIs (wr.alloc (.cells #[.int .i64 ls[p].token, .int .i64 ls[p].last, .string ls[p].reply] 41)) wr.heap.size 41 [.int .i64 ls[p].token, .int .i64 ls[p].last, .string ls[p].reply] := heap_alloc_new wr _
                  obtain ⟨V, hV⟩ : ∃ W, wr.alloc (.cells #[.int .i64 ls[p].token, .int .i64 ls[p].last, .string ls[p].reply] 41) = W := ⟨_, rfl⟩
                  rw [hV] at bn nn
                  have NV := hid nn
                  have BV := hid (below_via BX.out bn)
                  have V0 := hid (Z0.out.on bn Z0.out.lt)
                  have V1 := hid (Z1.out.on bn Z1.out.lt)
                  have V2 := hid (Z2.out.on bn Z2.out.lt)
                  have SV := hid (SR.out.on bn)
                  have IV := hid (IR.out.on bn)
                  have hbv : w.heap.size + 1 + 1 < V.heap.size := V2.out.lt
                  have v0 := V1.out.cell (j := 0) rfl
                  have v1 := V1.out.cell (j := 1) rfl
                  have v2 := V1.out.cell (j := 2) rfl
                  have v3 := V1.out.cell (j := 3) rfl
                  have v4 := V1.out.cell (j := 4) rfl
                  have v5 := V1.out.cell (j := 5) rfl
                  have b0 := V0.out.cell (j := 0) rfl
                  have b1 := V0.out.cell (j := 1) rfl
                  have n1 := NV.out.cell (j := 1) rfl
                  have n2 := NV.out.cell (j := 2) rfl
                  have n0 := NV.out.cell (j := 0) rfl
                  clear bn nn Z0 Z1 Z2 SR IR BX
                  by_cases q0 : x.seq = 0
                  · have HD3 : Hid (doneD ls li index x = ⟨ls, li, txt [111, 108, 100], true⟩) := by show _ = _; rw [HD2.out, askD, if_pos (Or.inl q0)]
                    go_wp2_with fail
                    refine Calls.mono (CC.out _ SV.out IV.out) ?_
                    rintro e wd ⟨va, vc, vb, vd, rfl, kd, bd⟩
                    have hY := V2.out.on bd V2.out.lt
                    have kd' := kd.down (show w.heap.size ≤ _ from BV.out.size)
                    have BD := below_via BV.out bd
                    have r0 := hY.cell (j := 0) rfl
                    have r1 := hY.cell (j := 1) rfl
                    have f0 := hY.thaw 0
                    have f1 := hY.thaw 1
                    have BE := hid (((BD).setCell (p := ⟨w.heap.size + 1 + 1, 0, none⟩) (by show _ ≤ _ + 1 + 1; omega) (.slice va ls.length vc)).setCell (p := ⟨w.heap.size + 1 + 1, 1, none⟩) (by show _ ≤ _ + 1 + 1; omega) (.slice vb li.length vd))
                    have KE := hid ((KRows.far (j := 0) kd' hY (by decide) (by decide) (.slice va ls.length vc)).far (j := 1) (hY.set 0 (.slice va ls.length vc)) (by decide) (by decide) (.slice vb li.length vd))
                    clear kd bd hY kd' BD
                    go_wp2
                    refine bodyPost_ret (v := .tuple #[.agg #[.slice va ls.length vc, .slice vb li.length vd], .string ⟨#[111, 108, 100]⟩, .bool true]) (by simp [results, Try.results26, go_sem, r0, r1]) rfl ?_
                    rw [HP.out, HD3.out]
                    exact ⟨va, vc, vb, vd, rfl, KE.out, BE.out⟩
                  by_cases q1 : x.seq < ls[p].last
                  · have HD3 : Hid (doneD ls li index x = ⟨ls, li, txt [111, 108, 100], true⟩) := by show _ = _; rw [HD2.out, askD, if_pos (Or.inr q1)]
                    go_wp2_with fail
                    refine Calls.mono (CC.out _ SV.out IV.out) ?_
                    rintro e wd ⟨va, vc, vb, vd, rfl, kd, bd⟩
                    have hY := V2.out.on bd V2.out.lt
                    have kd' := kd.down (show w.heap.size ≤ _ from BV.out.size)
                    have BD := below_via BV.out bd
                    have r0 := hY.cell (j := 0) rfl
                    have r1 := hY.cell (j := 1) rfl
                    have f0 := hY.thaw 0
                    have f1 := hY.thaw 1
                    have BE := hid (((BD).setCell (p := ⟨w.heap.size + 1 + 1, 0, none⟩) (by show _ ≤ _ + 1 + 1; omega) (.slice va ls.length vc)).setCell (p := ⟨w.heap.size + 1 + 1, 1, none⟩) (by show _ ≤ _ + 1 + 1; omega) (.slice vb li.length vd))
                    have KE := hid ((KRows.far (j := 0) kd' hY (by decide) (by decide) (.slice va ls.length vc)).far (j := 1) (hY.set 0 (.slice va ls.length vc)) (by decide) (by decide) (.slice vb li.length vd))
                    clear kd bd hY kd' BD
                    go_wp2
                    refine bodyPost_ret (v := .tuple #[.agg #[.slice va ls.length vc, .slice vb li.length vd], .string ⟨#[111, 108, 100]⟩, .bool true]) (by simp [results, Try.results26, go_sem, r0, r1]) rfl ?_
                    rw [HP.out, HD3.out]
                    exact ⟨va, vc, vb, vd, rfl, KE.out, BE.out⟩
                  by_cases q2 : x.seq = ls[p].last
                  · have HD3 : Hid (doneD ls li index x = ⟨ls, li, ls[p].reply, true⟩) := by show _ = _; rw [HD2.out, askD, if_neg (by omega), if_pos q2]
                    go_wp2
                    refine wp_region_each (N := 120) (by kernel_rfl) (by kernel_rfl) rfl (by kernel_rfl) (fun W => Below w.heap.size w W ∧ Below (w.heap.size + 1 + 1) V W ∧ (∃ cs, cs.length = 2 ∧ BlockIs W (w.heap.size + 1 + 1) 27 cs) ∧ BlockIs W wr.heap.size 41 [.int .i64 ls[p].token, .int .i64 ls[p].last, .string ls[p].reply]) (fun j v _ W => match j with | 0 => v = .agg #[.slice (some ⟨b, off, none⟩) ls.length ac, .slice bo li.length bc] | 1 => ∃ va vc vb vd, v = .agg #[.slice va ls.length vc, .slice vb li.length vd] ∧ KRows W w.heap.size (.slice va ls.length vc) (.slice vb li.length vd) ls li | 2 => v = .pointer (some ⟨wr.heap.size, 2, none⟩) | 3 => v = .string ls[p].reply | 4 => ∃ va vc vb vd, BlockIs W (w.heap.size + 1 + 1) 27 [.slice va ls.length vc, .slice vb li.length vd] ∧ KRows W w.heap.size (.slice va ls.length vc) (.slice vb li.length vd) ls li | 5 => v = .string ls[p].reply | 6 => v = .bool true | _ => True) (fun i => i) (fun j i => decide ((j, i) ∈ ([(1, 4)] : List (Nat × Nat)))) (fun i X9 Y9 => ∀ g ty cs, BlockIs X9 g ty cs → i ≠ 4 → BlockIs Y9 g ty cs) (fun _ => 0) (by kernel_rfl) (fun _ _ => rfl) ?_ ⟨below_drewN BV.out 1, below_drewN (Below.refl _ _) 1, ⟨_, rfl, V2.out⟩, NV.out⟩ ?_ ?_
                    · intro i j v u x y hij hdd hwt hxy hg
                      match j, hg with
                      | 0, hg => exact hg
                      | 1, hg =>
                        obtain ⟨va, vc, vb, vd, e1, e2⟩ := hg
                        simp at hdd
                        exact ⟨va, vc, vb, vd, e1, row_ext e2.1 fun g cs h => hxy _ _ _ h hdd, row_ext e2.2 fun g cs h => hxy _ _ _ h hdd⟩
                      | 2, hg => exact hg
                      | 3, hg => exact hg
                      | 4, hg =>
                        obtain ⟨va, vc, vb, vd, e1, e2⟩ := hg
                        exact ⟨va, vc, vb, vd, hxy _ _ _ e1 hij, row_ext e2.1 fun g cs h => hxy _ _ _ h hij, row_ext e2.2 fun g cs h => hxy _ _ _ h hij⟩
                      | 5, hg => exact hg
                      | 6, hg => exact hg
                      | n + 7, _ => exact trivial
                    · refine ⟨?_, ?_, ?_, ?_, ?_, ?_, ?_, trivial⟩
                      · intro A W hC hg hb
                        have h3 : A.eval (.tmp 3) = .pointer (some ⟨w.heap.size, 0, none⟩) := hb 3 (base_of (by kernel_rfl))
                        obtain ⟨k1, k2, ⟨cs, k3, k4⟩, k5⟩ := hC
                        have hv := V0.out.on k2 (show w.heap.size < w.heap.size + 1 + 1 by omega)
                        have c0 := hv.cell (j := 0) rfl
                        have c1 := hv.cell (j := 1) rfl
                        exact does_value (v := .agg #[.slice (some ⟨b, off, none⟩) ls.length ac, .slice bo li.length bc]) (w' := W) (by simp only [execOp, h3]; simp [go_sem, c0, c1]) ⟨rfl, ⟨k1, k2, ⟨cs, k3, k4⟩, k5⟩, fun _ _ _ h _ => h⟩
                      · intro A W hC hg hb
                        have h88 : A.eval (.tmp 88) = .agg #[.slice (some ⟨b, off, none⟩) ls.length ac, .slice bo li.length bc] := hg 0 88 (by decide) rfl (by simp [Op.operands, Call.operands]) (by kernel_rfl) rfl
                        simp [go_sem] at h88
                        obtain ⟨k1, k2, ⟨cs, k3, k4⟩, k5⟩ := hC
                        refine does_enter (f := 11) (args := #[.agg #[.slice (some ⟨b, off, none⟩) ls.length ac, .slice bo li.length bc]]) (w' := W) (by simp [go_sem, h88]) ?_
                        refine Calls.mono (CC.out W (HA0.out.on k1) (HI0.out.on k1)) ?_
                        rintro e W' ⟨va, vc, vb, vd, rfl, kd, bd⟩
                        exact ⟨_, rfl, ⟨va, vc, vb, vd, rfl, kd.down k1.size⟩, ⟨below_via k1 bd, k2.trans (bd.mono (Nat.le_of_lt (Nat.lt_of_lt_of_le hbv k2.size))), ⟨cs, k3, k4.on bd k4.lt⟩, k5.on bd k5.lt⟩, fun _ _ _ h _ => h.on bd h.lt⟩
                      · intro A W hC hg hb
                        have h13 : A.eval (.tmp 13) = .pointer (some ⟨wr.heap.size, 0, none⟩) := hb 13 (base_of (by kernel_rfl))
                        exact does_value (v := .pointer (some ⟨wr.heap.size, 2, none⟩)) (w' := W) (by simp only [execOp, h13]; simp [go_sem]) ⟨rfl, hC, fun _ _ _ h _ => h⟩
                      · intro A W hC hg hb
                        have h90 : A.eval (.tmp 90) = .pointer (some ⟨wr.heap.size, 2, none⟩) := hg 2 90 (by decide) rfl (by simp [Op.operands]) (by kernel_rfl) rfl
                        obtain ⟨k1, k2, ⟨cs, k3, k4⟩, k5⟩ := hC
                        have c0 := k5.cell (j := 2) rfl
                        exact does_value (v := .string ls[p].reply) (w' := W) (by simp only [execOp, h90]; simp [go_sem, c0]) ⟨rfl, ⟨k1, k2, ⟨cs, k3, k4⟩, k5⟩, fun _ _ _ h _ => h⟩
                      · intro A W hC hg hb
                        have h6 : A.eval (.tmp 6) = .pointer (some ⟨w.heap.size + 1 + 1, 0, none⟩) := hb 6 (base_of (by kernel_rfl))
                        have g1 := hg 1 89 (by decide) rfl (by simp [Op.operands]) (by kernel_rfl) rfl
                        obtain ⟨va, vc, vb, vd, e8, hkr⟩ := g1
                        obtain ⟨k1, k2, ⟨cs, k3, k4⟩, k5⟩ := hC
                        match cs, k3 with
                        | [a0, a1], _ =>
                          have c0 := k4.cell (j := 0) rfl
                          have c1 := k4.cell (j := 1) rfl
                          have f0 := k4.thaw 0
                          have f1 := k4.thaw 1
                          have hX3 := (k4.set 0 (.slice va ls.length vc)).set 1 (.slice vb li.length vd)
                          exact does_skip (w' := ((W.setCell ⟨w.heap.size + 1 + 1, 0, none⟩ (.slice va ls.length vc)).setCell ⟨w.heap.size + 1 + 1, 1, none⟩ (.slice vb li.length vd))) (by simp only [execOp, h6, e8]; simp [go_sem, c0, c1, f0, f1]) ⟨⟨va, vc, vb, vd, hX3, (KRows.far (j := 0) hkr k4 (by decide) (by decide) _).far (j := 1) (k4.set 0 _) (by decide) (by decide) _⟩, ⟨(k1.setCell (by show _ ≤ _ + 1 + 1; omega) _).setCell (by show _ ≤ _ + 1 + 1; omega) _, (k2.setCell (Nat.le_refl _) _).setCell (Nat.le_refl _) _, ⟨_, rfl, hX3⟩, (k5.far (by omega) _).far (by omega) _⟩, fun _ _ _ _ hne => absurd rfl hne⟩
                      · intro A W hC hg hb
                        have h91 : A.eval (.tmp 91) = .string ls[p].reply := hg 3 91 (by decide) rfl (by simp [Op.operands]) (by kernel_rfl) rfl
                        exact does_value (v := .string ls[p].reply) (w' := W) (by simp only [execOp, h91]; simp [go_sem]) ⟨rfl, hC, fun _ _ _ h _ => h⟩
                      · intro A W hC hg hb
                        exact does_value (v := .bool true) (w' := W) (by simp [execOp, go_sem]) ⟨rfl, hC, fun _ _ _ h _ => h⟩
                    · intro vs w4 hC hg
                      obtain ⟨va, vc, vb, vd, g1, g2⟩ := hg 4 (by decide) (fun k => by simp)
                      have e5 := hg 5 (by decide) (fun k => by simp)
                      have e6 := hg 6 (by decide) (fun k => by simp)
                      clear hg
                      change Exit.then _ _ _ (laidBy _ vs _ 7 _) w4
                      simp only [laidBy, if_true, dstAt, List.getElem?_toArray, List.getElem?_cons_succ, List.getElem?_cons_zero, Option.bind_some]
                      simp only [Act.put, List.setIfInBounds_toArray, List.set_cons_succ, List.set_cons_zero]
                      change vs 5 = _ at e5
                      change vs 6 = _ at e6
                      rw [e5, e6]
                      have r0 := g1.cell (j := 0) rfl
                      have r1 := g1.cell (j := 1) rfl
                      have BE := hid hC.1
                      have KE := hid g2
                      clear hC g1 g2 e5 e6
                      go_wp2
                      refine bodyPost_ret (v := .tuple #[.agg #[.slice va ls.length vc, .slice vb li.length vd], .string ls[p].reply, .bool true]) (by simp [results, Try.results26, go_sem, r0, r1]) rfl ?_
                      rw [HP.out, HD3.out]
                      exact ⟨va, vc, vb, vd, rfl, KE.out, BE.out⟩
                  by_cases q3 : ls[p].last + 1 < x.seq
                  · have HD3 : Hid (doneD ls li index x = ⟨ls, li, txt [103, 97, 112], true⟩) := by show _ = _; rw [HD2.out, askD, if_neg (by omega), if_neg q2, if_pos (by omega)]
                    go_wp2_with fail
                    refine Calls.mono (CC.out _ SV.out IV.out) ?_
                    rintro e wd ⟨va, vc, vb, vd, rfl, kd, bd⟩
                    have hY := V2.out.on bd V2.out.lt
                    have kd' := kd.down (show w.heap.size ≤ _ from BV.out.size)
                    have BD := below_via BV.out bd
                    have r0 := hY.cell (j := 0) rfl
                    have r1 := hY.cell (j := 1) rfl
                    have f0 := hY.thaw 0
                    have f1 := hY.thaw 1
                    have BE := hid (((BD).setCell (p := ⟨w.heap.size + 1 + 1, 0, none⟩) (by show _ ≤ _ + 1 + 1; omega) (.slice va ls.length vc)).setCell (p := ⟨w.heap.size + 1 + 1, 1, none⟩) (by show _ ≤ _ + 1 + 1; omega) (.slice vb li.length vd))
                    have KE := hid ((KRows.far (j := 0) kd' hY (by decide) (by decide) (.slice va ls.length vc)).far (j := 1) (hY.set 0 (.slice va ls.length vc)) (by decide) (by decide) (.slice vb li.length vd))
                    clear kd bd hY kd' BD
                    go_wp2
                    refine bodyPost_ret (v := .tuple #[.agg #[.slice va ls.length vc, .slice vb li.length vd], .string ⟨#[103, 97, 112]⟩, .bool true]) (by simp [results, Try.results26, go_sem, r0, r1]) rfl ?_
                    rw [HP.out, HD3.out]
                    exact ⟨va, vc, vb, vd, rfl, KE.out, BE.out⟩
                  obtain ⟨D, hD⟩ : ∃ D, doD li index x = D := ⟨_, rfl⟩
                  have HD3 : Hid (doneD ls li index x = ⟨ls.set p ⟨ls[p].token, x.seq, D.2⟩, D.1, D.2, true⟩) := by show _ = _; rw [HD2.out, askD, if_neg (by omega), if_neg q2, if_neg (by omega), hD, set_putIn (y := ⟨ls[p].token, x.seq, D.2⟩) hasc hp rfl, HTP.out]
                  have HDD := hid hD
                  clear hD
                  go_wp2_with fail
                  refine Calls.mono (CC.out _ SV.out IV.out) ?_
                  rintro e wd ⟨va, vc, vb, vd, rfl, kd, bd⟩
                  have bn := below_more (Below.refl wd.heap.size wd) (.cells #[.slice va ls.length vc, .slice vb li.length vd] 27)
                  have nn : BlockIs (wd.alloc (.cells #[.slice va ls.length vc, .slice vb li.length vd] 27)) wd.heap.size 27 [.slice va ls.length vc, .slice vb li.length vd] := heap_alloc_new wd _
                  have kn := kd.on bn
                  have bdn := below_via bd bn
                  obtain ⟨U, hU⟩ : ∃ W, wd.alloc (.cells #[.slice va ls.length vc, .slice vb li.length vd] 27) = W := ⟨_, rfl⟩
                  rw [hU] at nn kn bdn
                  have hud : V.heap.size ≤ wd.heap.size := bd.size
                  have U1 := hid (V1.out.on bdn V1.out.lt)
                  have U2 := hid (V2.out.on bdn V2.out.lt)
                  have BU := hid (below_via BV.out bdn)
                  have NU := hid nn
                  have RU := hid (kn.down (show w.heap.size ≤ _ from BV.out.size))
                  have hwU : w.heap.size ≤ U.heap.size := BU.out.size
                  have u0 := U1.out.cell (j := 0) rfl
                  have u1 := U1.out.cell (j := 1) rfl
                  have u2 := U1.out.cell (j := 2) rfl
                  have u3 := U1.out.cell (j := 3) rfl
                  have u4 := U1.out.cell (j := 4) rfl
                  have u5 := U1.out.cell (j := 5) rfl
                  clear bn nn kn bdn kd bd v0 v1 v2 v3 v4 v5 b0 b1 n0 n1 n2 V0 V1 V2 SV IV BV NV CC
                  go_wp2_with fail
                  refine Calls.mono (l15Do_any wd.heap.size w.heap.size (.slice va ls.length vc) vb li vd index x ⟨_, _, _, rfl⟩ (by omega) hi1 hl8 hif (by omega) U hwU NU.out RU.out.2) ?_
                  rintro e wf ⟨rfl, vb', vd', kf, rf, gf⟩
                  rw [HDD.out] at kf rf ⊢
                  obtain ⟨g, rr, rfl, hwg, hgb⟩ := row_blockK (by omega) RU.out.1
                  have hgne : g ≠ wd.heap.size := by intro e; subst e; exact absurd (block_one hgb NU.out).1 (by decide)
                  have rs : wf.ownsRow w.heap.size 41 3 (.slice (some ⟨g, 0, none⟩) ls.length vc) ls.length (sessionCells ls) := RU.out.1.kept gf (Or.inr (by simpa [Value.ownBlock] using hgne))
                  obtain ⟨hcap, _⟩ := row_capK rs
                  obtain ⟨g', rr', eg, _, hgf⟩ := row_blockK (by omega) rs
                  cases eg
                  have F1 : BlockIs wf (w.heap.size + 1) 62 [.int .i64 x.op, .int .i64 x.token, .int .i64 x.seq, .string x.key, .string x.val, .int .i64 x.ver] := by unfold BlockIs; rw [gf.block _ U1.out.lt (by simp; omega)]; exact U1.out
                  have F2 : BlockIs wf (w.heap.size + 1 + 1) 27 [.slice none 0 0, .slice none 0 0] := by unfold BlockIs; rw [gf.block _ U2.out.lt (by simp; omega)]; exact U2.out
                  have BF := BU.out.grown gf hwU (fun k e => by cases e; omega)
                  have c0 := kf.cell (j := 0) rfl
                  have c1 := kf.cell (j := 1) rfl
                  have y2 := F1.cell (j := 2) rfl
                  have e1 := hgf.cell (j := p * 3 + 1) (row_at sessionEnc 3 (fun _ => rfl) ls _ p 1 hp (by omega))
                  have e2 := hgf.cell (j := p * 3 + 2) (row_at sessionEnc 3 (fun _ => rfl) ls _ p 2 hp (by omega))
                  have t1 := hgf.thaw (p * 3 + 1)
                  have t2 := hgf.thaw (p * 3 + 2)
                  obtain ⟨D1, hD1⟩ : ∃ D1, D.1 = D1 := ⟨_, rfl⟩
                  obtain ⟨D2, hD2⟩ : ∃ D2, D.2 = D2 := ⟨_, rfl⟩
                  rw [hD1] at kf rf c1 HD3
                  rw [hD2] at HD3 ⊢
                  clear hD1 hD2 HDD HD2
                  obtain ⟨W5, hW5⟩ : ∃ W, wf.setCell ⟨g, p * 3 + 1, none⟩ (.int .i64 x.seq) = W := ⟨_, rfl⟩
                  obtain ⟨W6, hW6⟩ : ∃ W, W5.setCell ⟨g, p * 3 + 2, none⟩ (.string D2) = W := ⟨_, rfl⟩
                  have hgw : g ≠ w.heap.size + 1 + 1 := by intro e; subst e; exact absurd (block_one hgf F2).1 (by decide)
                  have far : ∀ q ty cs, BlockIs wf q ty cs → g ≠ q → BlockIs W6 q ty cs := fun q ty cs h hq => by rw [← hW6, ← hW5]; exact (h.far hq _).far hq _
                  have far5 : ∀ q ty cs, BlockIs wf q ty cs → g ≠ q → BlockIs W5 q ty cs := fun q ty cs h hq => by rw [← hW5]; exact h.far hq _
                  have rs6 : W6.ownsRow w.heap.size 41 3 (.slice (some ⟨g, 0, none⟩) ls.length vc) ls.length (sessionCells (ls.set p ⟨ls[p].token, x.seq, D2⟩)) := by rw [← hW6, ← hW5, ← cells_set2 hp]; exact row_setK (row_setK rs _) _
                  have ri6 : W6.ownsRow w.heap.size 39 3 (.slice vb' D1.length vd') D1.length (itemCells D1) := row_ext rf fun q cs h => far q _ _ h (fun e => by subst e; exact absurd (block_one h hgf).1 (by decide))
                  have k6 := far _ _ _ kf (by omega)
                  have k5 := far5 _ _ _ kf (by omega)
                  have y6 := far _ _ _ F2 hgw
                  have B6 : Below w.heap.size w W6 := by rw [← hW6, ← hW5]; exact (BF.setCell (by show _ ≤ g; omega) _).setCell (by show _ ≤ g; omega) _
                  have d50 := k5.cell (j := 0) rfl
                  have d60 := k6.cell (j := 0) rfl
                  have d61 := k6.cell (j := 1) rfl
                  have e2' : W5.cell? ⟨g, p * 3 + 2, none⟩ = some (.string ls[p].reply) := by rw [← hW5]; exact (hgf.set _ _).cell (by rw [List.getElem?_set_ne (by omega)]; exact row_at sessionEnc 3 (fun _ => rfl) ls _ p 2 hp (by omega))
                  have t2' : W5.frozen? ⟨g, p * 3 + 2, none⟩ = false := by rw [← hW5]; exact (hgf.set _ _).thaw _
                  have rl : (ls.set p ⟨ls[p].token, x.seq, D2⟩).length = ls.length := List.length_set
                  have HRL := hid rl
                  clear rl
                  have r0 := y6.cell (j := 0) rfl
                  have r1 := y6.cell (j := 1) rfl
                  have f0 := y6.thaw 0
                  have f1 := y6.thaw 1
                  have KX : KRows W6 w.heap.size (.slice (some ⟨g, 0, none⟩) ls.length vc) (.slice vb' D1.length vd') (ls.set p ⟨ls[p].token, x.seq, D2⟩) D1 := ⟨by rw [HRL.out]; exact rs6, ri6⟩
                  have BE := hid ((B6.setCell (p := ⟨w.heap.size + 1 + 1, 0, none⟩) (by show _ ≤ _ + 1 + 1; omega) (.slice (some ⟨g, 0, none⟩) ls.length vc)).setCell (p := ⟨w.heap.size + 1 + 1, 1, none⟩) (by show _ ≤ _ + 1 + 1; omega) (.slice vb' D1.length vd'))
                  have KE := hid ((KX.far (j := 0) y6 (by decide) (by decide) (.slice (some ⟨g, 0, none⟩) ls.length vc)).far (j := 1) (y6.set 0 (.slice (some ⟨g, 0, none⟩) ls.length vc)) (by decide) (by decide) (.slice vb' D1.length vd'))
                  clear kf rf gf hgb rs hgf F1 F2 BF far far5 rs6 ri6 k6 k5 y6 B6 KX U1 U2 BU NU RU
                  go_wp2
                  refine bodyPost_ret (v := .tuple #[.agg #[.slice (some ⟨g, 0, none⟩) ls.length vc, .slice vb' D1.length vd'], .string D2, .bool true]) (by simp [results, Try.results26, go_sem, r0, r1]) rfl ?_
                  rw [HP.out, HD3.out]
                  exact ⟨some ⟨g, 0, none⟩, vc, vb', vd', by rw [HRL.out], by rw [HRL.out]; exact KE.out, BE.out⟩
              | succ q =>
                have hlt : k < ls.length := by omega
                have hlt' : (k : Int) < (ls.length : Int) := by omega
                have hne : ls ≠ [] := by intro e; rw [e] at hlt; simp at hlt
                obtain ⟨b, off, rfl, hc⟩ := SC.out.on BR.out hne
                obtain ⟨s0, s1, s2⟩ := hc k hlt
                clear hc
                by_cases he : ls[k].token = x.token
                · have he' : (ls[k].token == x.token) = true := beq_iff_eq.2 he
                  go_wp2
                  go_quiet (fail)
                  go_wp2
                  go_roundg q
                  case measure => omega
                  case rel => exact ⟨k + 1, (k : Int), by omega, rfl, by go_num, Or.inr ⟨k, hlt, by omega, rfl, he⟩, below_drewN BR.out _⟩
                · have he' : (ls[k].token == x.token) = false := beq_eq_false_iff_ne.2 he
                  go_wp2
                  go_quiet (fail)
                  go_wp2
                  go_roundg q
                  case measure => omega
                  case rel =>
                    refine ⟨k + 1, z, by omega, rfl, by go_num, ?_, below_drewN BR.out _⟩
                    rcases HZ.out with ⟨hz, hn⟩ | ⟨p, hp, hpk, hz, ht⟩
                    · exact Or.inl ⟨hz, fun j hj hjk => by
                        rcases Nat.lt_or_ge j k with q | q
                        · exact hn j hj q
                        · obtain rfl : j = k := by omega
                          exact he⟩
                    · exact Or.inr ⟨p, hp, by omega, hz, ht⟩
end Go.Proofs.Ytdneebbcacpeoaa
