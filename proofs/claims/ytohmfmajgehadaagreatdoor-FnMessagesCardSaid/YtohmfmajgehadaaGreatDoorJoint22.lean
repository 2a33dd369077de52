/-
  The walk of spec.MessageOk: what it answers.
-/
import Derived.Test.YtohmfmajgehadaaGreatDoorJoint21
import Derived.Test.YtohmfmajgehadaaGreatDoorJoint7
import Derived.Test.YtohmfmajgehadaaGreatDoorJoint6
import Derived.Test.YtohmfmajgehadaaGreatDoorJoint1
import Derived.Deep.QuietTactic
import Derived.BigQuiet
import Derived.Lib.QuietBelow
import Derived.Test.YtohmfmajgehadaaGreatDoorRows
namespace Go.Proofs.YtohmfmajgehadaaGreatDoor
open Go.RowKit Go.Sort

set_option maxRecDepth 1000000 in
set_option maxHeartbeats 2000000 in
theorem specMessageOk_any (d : MsgD) (ao : Option Addr) (ac : Nat) (bo : Option Addr) (bc : Nat) (hs : d.Small) (w : World) (ha : EntsAt w ao d.ents) (hb : IntsAt w bo d.conf) :
    Calls Tryz.prog 15 #[.agg #[.int .i64 d.kind, .int .i64 d.src, .int .i64 d.dst, .int .i64 d.term, .int .i64 d.index, .int .i64 d.logTerm, .int .i64 d.commit, .bool d.ok, .slice ao d.ents.length ac, .slice bo d.conf.length bc, .string d.data, .bool d.last]] w fun e w' => e = .returned (.bool (messageOk d)) ∧ Below w.heap.size w w' := by
  have HB := hid (below_more (Below.refl w.heap.size w) (.cells #[.int .i64 d.kind, .int .i64 d.src, .int .i64 d.dst, .int .i64 d.term, .int .i64 d.index, .int .i64 d.logTerm, .int .i64 d.commit, .bool d.ok, .slice ao d.ents.length ac, .slice bo d.conf.length bc, .string d.data, .bool d.last] 39))
  have hx : BlockIs (w.alloc (.cells #[.int .i64 d.kind, .int .i64 d.src, .int .i64 d.dst, .int .i64 d.term, .int .i64 d.index, .int .i64 d.logTerm, .int .i64 d.commit, .bool d.ok, .slice ao d.ents.length ac, .slice bo d.conf.length bc, .string d.data, .bool d.last] 39)) w.heap.size 39 [.int .i64 d.kind, .int .i64 d.src, .int .i64 d.dst, .int .i64 d.term, .int .i64 d.index, .int .i64 d.logTerm, .int .i64 d.commit, .bool d.ok, .slice ao d.ents.length ac, .slice bo d.conf.length bc, .string d.data, .bool d.last] := heap_alloc_new w _
  obtain ⟨W, hW⟩ : ∃ W, w.alloc (.cells #[.int .i64 d.kind, .int .i64 d.src, .int .i64 d.dst, .int .i64 d.term, .int .i64 d.index, .int .i64 d.logTerm, .int .i64 d.commit, .bool d.ok, .slice ao d.ents.length ac, .slice bo d.conf.length bc, .string d.data, .bool d.last] 39) = W := ⟨_, rfl⟩
  rw [hW] at HB hx
  have HX := hid hx
  have c0 := hx.cell (j := 0) rfl
  have c1 := hx.cell (j := 1) rfl
  have c2 := hx.cell (j := 2) rfl
  have c3 := hx.cell (j := 3) rfl
  have c4 := hx.cell (j := 4) rfl
  have c5 := hx.cell (j := 5) rfl
  have c6 := hx.cell (j := 6) rfl
  have c7 := hx.cell (j := 7) rfl
  have c8 := hx.cell (j := 8) rfl
  have c9 := hx.cell (j := 9) rfl
  have c10 := hx.cell (j := 10) rfl
  have c11 := hx.cell (j := 11) rfl
  clear hx
  have cN := hid (fun x a b w => l01In_any x a b w)
  by_cases h0 : 1 ≤ d.kind ∧ d.kind ≤ 6
  rotate_left
  · have e0 := within_no (x := d.kind) (a := 1) (b := 6) (by omega)
    clear h0
    have HR : Hid (messageOk d = false) := by show _ = _; simp [messageOk, headOk, cargoOk, bareOk, e0]
    go_enter Tryz.func15, Tryz.ntmps15
    go_wp2_with (first | (go_at_call 39; refine (cN.out _ _ _ _).mono ?_; rintro e w1 ⟨rfl, hw⟩; rw [hw]; clear hw w1) | fail)
    go_ret
    exact ⟨by rw [HR.out]; rfl, HB.out⟩
  have e0 := within_yes (x := d.kind) (a := 1) (b := 6) h0.1 h0.2
  by_cases h1 : 1 ≤ d.src ∧ d.src ≤ 4
  rotate_left
  · have e1 := within_no (x := d.src) (a := 1) (b := 4) (by omega)
    clear h1
    have HR : Hid (messageOk d = false) := by show _ = _; simp [messageOk, headOk, cargoOk, bareOk, e0, e1]
    go_enter Tryz.func15, Tryz.ntmps15
    go_wp2_with (first | (go_at_call 39; refine (cN.out _ _ _ _).mono ?_; rintro e w1 ⟨rfl, hw⟩; rw [hw]; clear hw w1) | fail)
    go_ret
    exact ⟨by rw [HR.out]; rfl, HB.out⟩
  have e1 := within_yes (x := d.src) (a := 1) (b := 4) h1.1 h1.2
  clear h1
  by_cases h2 : 1 ≤ d.dst ∧ d.dst ≤ 4
  rotate_left
  · have e2 := within_no (x := d.dst) (a := 1) (b := 4) (by omega)
    clear h2
    have HR : Hid (messageOk d = false) := by show _ = _; simp [messageOk, headOk, cargoOk, bareOk, e0, e1, e2]
    go_enter Tryz.func15, Tryz.ntmps15
    go_wp2_with (first | (go_at_call 39; refine (cN.out _ _ _ _).mono ?_; rintro e w1 ⟨rfl, hw⟩; rw [hw]; clear hw w1) | fail)
    go_ret
    exact ⟨by rw [HR.out]; rfl, HB.out⟩
  have e2 := within_yes (x := d.dst) (a := 1) (b := 4) h2.1 h2.2
  clear h2
  by_cases e3 : d.src = d.dst
  · have hq := beq_iff_eq.2 e3
    have HE3 := hid e3
    clear e3
    have HR : Hid (messageOk d = false) := by show _ = _; simp [messageOk, headOk, e0, e2, HE3.out]
    go_enter Tryz.func15, Tryz.ntmps15
    go_wp2_with (first | (go_at_call 39; refine (cN.out _ _ _ _).mono ?_; rintro e w1 ⟨rfl, hw⟩; rw [hw]; clear hw w1) | fail)
    go_ret
    exact ⟨by rw [HR.out]; rfl, HB.out⟩
  by_cases h4 : 0 ≤ d.term ∧ d.term ≤ 100000
  rotate_left
  · have e4 := within_no (x := d.term) (a := 0) (b := 100000) (by omega)
    clear h4
    have HR : Hid (messageOk d = false) := by show _ = _; simp [messageOk, headOk, cargoOk, bareOk, e0, e1, e2, e3, e4]
    go_enter Tryz.func15, Tryz.ntmps15
    go_wp2_with (first | (go_at_call 39; refine (cN.out _ _ _ _).mono ?_; rintro e w1 ⟨rfl, hw⟩; rw [hw]; clear hw w1) | fail)
    go_ret
    exact ⟨by rw [HR.out]; rfl, HB.out⟩
  have e4 := within_yes (x := d.term) (a := 0) (b := 100000) h4.1 h4.2
  clear h4
  by_cases h5 : 0 ≤ d.logTerm ∧ d.logTerm ≤ 100000
  rotate_left
  · have e5 := within_no (x := d.logTerm) (a := 0) (b := 100000) (by omega)
    clear h5
    have HR : Hid (messageOk d = false) := by show _ = _; simp [messageOk, headOk, cargoOk, bareOk, e0, e1, e2, e3, e4, e5]
    go_enter Tryz.func15, Tryz.ntmps15
    go_wp2_with (first | (go_at_call 39; refine (cN.out _ _ _ _).mono ?_; rintro e w1 ⟨rfl, hw⟩; rw [hw]; clear hw w1) | fail)
    go_ret
    exact ⟨by rw [HR.out]; rfl, HB.out⟩
  have e5 := within_yes (x := d.logTerm) (a := 0) (b := 100000) h5.1 h5.2
  clear h5
  by_cases h6 : 0 ≤ d.index ∧ d.index ≤ 1000000
  rotate_left
  · have e6 := within_no (x := d.index) (a := 0) (b := 1000000) (by omega)
    clear h6
    have HR : Hid (messageOk d = false) := by show _ = _; simp [messageOk, headOk, cargoOk, bareOk, e0, e1, e2, e3, e4, e5, e6]
    go_enter Tryz.func15, Tryz.ntmps15
    go_wp2_with (first | (go_at_call 39; refine (cN.out _ _ _ _).mono ?_; rintro e w1 ⟨rfl, hw⟩; rw [hw]; clear hw w1) | fail)
    go_ret
    exact ⟨by rw [HR.out]; rfl, HB.out⟩
  have e6 := within_yes (x := d.index) (a := 0) (b := 1000000) h6.1 h6.2
  clear h6
  by_cases h7 : 0 ≤ d.commit ∧ d.commit ≤ 1000000
  rotate_left
  · have e7 := within_no (x := d.commit) (a := 0) (b := 1000000) (by omega)
    clear h7
    have HR : Hid (messageOk d = false) := by show _ = _; simp [messageOk, headOk, cargoOk, bareOk, e0, e1, e2, e3, e4, e5, e6, e7]
    go_enter Tryz.func15, Tryz.ntmps15
    go_wp2_with (first | (go_at_call 39; refine (cN.out _ _ _ _).mono ?_; rintro e w1 ⟨rfl, hw⟩; rw [hw]; clear hw w1) | fail)
    go_ret
    exact ⟨by rw [HR.out]; rfl, HB.out⟩
  have e7 := within_yes (x := d.commit) (a := 0) (b := 1000000) h7.1 h7.2
  clear h7
  have HH : Hid (messageOk d = cargoOk d) := by show _ = _; exact messageOk_of h0 (by simp [headOk, e1, e2, e3, e4, e5, e6, e7])
  clear h0
  by_cases h60 : (4 : Int) < (d.ents.length : Int)
  · have HR : Hid (messageOk d = false) := by
      show _ = _
      rw [HH.out]
      unfold cargoOk bareOk
      rw [decide_eq_false (by omega : ¬ d.ents.length ≤ 4), decide_eq_false (by omega : ¬ d.ents.length = 0)]
      simp
    go_enter Tryz.func15, Tryz.ntmps15
    go_wp2_with (first | (go_at_call 39; refine (cN.out _ _ _ _).mono ?_; rintro e w1 ⟨rfl, hw⟩; rw [hw]; clear hw w1) | fail)
    go_ret
    exact ⟨by rw [HR.out]; rfl, HB.out⟩
  by_cases hk3 : (0 : Int) < (d.ents.length : Int) ∧ ¬ d.kind = 3
  · obtain ⟨hk0, hk3⟩ := hk3
    have hq3 : (d.kind != 3) = true := bne_iff_ne.2 hk3
    have HR : Hid (messageOk d = false) := by
      show _ = _
      rw [HH.out]
      unfold cargoOk bareOk
      rw [if_neg hk3, decide_eq_false (by omega : ¬ d.ents.length = 0)]
      simp
    go_enter Tryz.func15, Tryz.ntmps15
    go_wp2_with (first | (go_at_call 39; refine (cN.out _ _ _ _).mono ?_; rintro e w1 ⟨rfl, hw⟩; rw [hw]; clear hw w1) | fail)
    go_ret
    exact ⟨by rw [HR.out]; rfl, HB.out⟩
  have HNK := hid hk3
  have HA := hid ha
  have HI := hid hb
  have HS := hid hs
  clear ha hb hs
  by_cases h0 : (0 : Int) < (d.ents.length : Int)
  · have HK := hid (Classical.byContradiction fun h => hk3 ⟨h0, h⟩ : d.kind = 3)
    have hq3 : (d.kind != 3) = false := by rw [HK.out]; rfl
    have hqn : ¬ ¬ d.kind = 3 := fun h => h HK.out
    clear hk3 HK
    go_enter Tryz.func15, Tryz.ntmps15
    go_wp2_with (first | (go_at_call 39; refine (cN.out _ _ _ _).mono ?_; rintro e w1 ⟨rfl, hw⟩; rw [hw]; clear hw w1) | fail)
    go_loopg [3, 4] d.ents.length (fun g y i wr => ∃ (k : Nat), k + g = d.ents.length ∧ i = .int .i64 k ∧ y = .int .i64 (lastT d.logTerm (d.ents.take k)) ∧ Hid (sentOk d.logTerm d.term (d.ents.take k) = true) ∧ Hid (Below w.heap.size w wr) ∧ Hid (BlockIs wr w.heap.size 39 [.int .i64 d.kind, .int .i64 d.src, .int .i64 d.dst, .int .i64 d.term, .int .i64 d.index, .int .i64 d.logTerm, .int .i64 d.commit, .bool d.ok, .slice ao d.ents.length ac, .slice bo d.conf.length bc, .string d.data, .bool d.last]))
    case atStart => exact ⟨0, by omega, rfl, rfl, rfl, HB, HX⟩
    case round =>
      obtain ⟨k, hkg, rfl, rfl, RT, BR, XR⟩ := hrel
      clear HB HX c0 c1 c2 c3 c4 c5 c6 c7 c8 c9 c10 c11
      have c0 := XR.out.cell (j := 0) rfl
      have c3 := XR.out.cell (j := 3) rfl
      have c8 := XR.out.cell (j := 8) rfl
      have c9 := XR.out.cell (j := 9) rfl
      have c10 := XR.out.cell (j := 10) rfl
      have c11 := XR.out.cell (j := 11) rfl
      cases gk with
      | zero =>
        have hlt : ¬ (k : Int) < (d.ents.length : Int) := by omega
        have HT : Hid (sentOk d.logTerm d.term d.ents = true) := by
          have := RT.out
          rw [List.take_of_length_le (by omega)] at this
          exact this
        by_cases k5 : d.kind = 5
        · have hq5 : (d.kind == 5) = true := beq_iff_eq.2 k5
          have HZ : Hid (messageOk d = (confOk d.conf && decide (d.data.size ≤ 60))) := by
            show _ = _
            have hz : d.ents.length = 0 := Classical.byContradiction fun h => HNK.out ⟨by omega, by omega⟩
            rw [HH.out, cargoOk, if_neg (by omega), if_pos k5, decide_eq_true hz, Bool.true_and]
          clear k5
          have cC' := fun w hz => specConfOk_any bo d.conf bc HS.out.conf w hz
          cases hc : confOk d.conf with
          | false =>
            have HR : Hid (messageOk d = false) := by show _ = _; rw [HZ.out, hc, Bool.false_and]
            rw [hc] at cC'
            have cC := hid cC'
            clear cC' hc
            go_wp2_with fail
            refine (cC.out _ (HI.out.on BR.out)).mono ?_
            rintro e w1 ⟨rfl, b1⟩
            have B1 := hid (below_via BR.out b1)
            clear b1 cC
            go_wp2
            go_ret
            exact ⟨by rw [HR.out]; rfl, B1.out⟩
          | true =>
            have HR : Hid (messageOk d = decide ((d.data.size : Int) ≤ 60)) := by show _ = _; rw [HZ.out, hc, Bool.true_and]; congr 1; exact propext (by omega)
            rw [hc] at cC'
            have cC := hid cC'
            clear cC' hc
            go_wp2_with fail
            refine (cC.out _ (HI.out.on BR.out)).mono ?_
            rintro e w1 ⟨rfl, b1⟩
            have B1 := hid (below_via BR.out b1)
            have d10 := (XR.out.on b1 XR.out.lt).cell (j := 10) rfl
            clear b1 cC
            go_wp2
            go_ret
            exact ⟨by rw [HR.out]; rfl, B1.out⟩
        have HZ : Hid (messageOk d = (decide (d.conf.length = 0) && decide (d.data.size = 0) && !d.last)) := by
          show _ = _
          rw [HH.out]
          unfold cargoOk bareOk
          by_cases k3 : d.kind = 3
          · rw [if_pos k3, HT.out, decide_eq_true (by omega : d.ents.length ≤ 4)]; rfl
          · have hz : d.ents.length = 0 := Classical.byContradiction fun h => HNK.out ⟨by omega, k3⟩
            rw [if_neg k3, if_neg k5, decide_eq_true hz]; rfl
        have hv := empty_txt17 d.data
        by_cases z0 : (d.conf.length : Int) = 0
        rotate_left
        · have HR : Hid (messageOk d = false) := by show _ = _; rw [HZ.out, decide_eq_false (by omega : ¬ d.conf.length = 0)]; rfl
          clear hv
          have hz0 : ((d.conf.length : Int) == 0) = false := beq_eq_false_iff_ne.2 z0
          go_wp2
          go_ret
          exact ⟨by rw [HR.out]; rfl, BR.out⟩
        have HZ0 := hid z0
        have hz0 : ((d.conf.length : Int) == 0) = true := beq_iff_eq.2 z0
        clear z0
        by_cases v0 : d.data.size = 0
        rotate_left
        · have HR : Hid (messageOk d = false) := by show _ = _; rw [HZ.out, decide_eq_false v0, Bool.and_false]; rfl
          rw [decide_eq_false v0] at hv
          go_wp2
          go_ret
          exact ⟨by rw [HR.out]; rfl, BR.out⟩
        have HR : Hid (messageOk d = !d.last) := by show _ = _; rw [HZ.out, decide_eq_true (by have := HZ0.out; omega : d.conf.length = 0), decide_eq_true v0]; rfl
        rw [decide_eq_true v0] at hv
        clear v0
        go_wp2
        go_ret
        exact ⟨by rw [HR.out]; rfl, BR.out⟩
      | succ g =>
        have hlt : k < d.ents.length := by omega
        have hlt' : (k : Int) < (d.ents.length : Int) := by omega
        have HK3 : Hid (d.kind = 3) := by
          show _ = _
          exact Classical.byContradiction fun h => HNK.out ⟨by omega, h⟩
        have hne : d.ents ≠ [] := by intro e; rw [e] at hlt; simp at hlt
        obtain ⟨b, off, rfl, hc⟩ := HA.out.on BR.out hne
        obtain ⟨x0, x1, x2⟩ := hc k hlt
        clear hc hne
        have C' := fun w => specEntryOk_any d.ents[k] (HS.out.each _ (List.getElem_mem hlt)) w
        have HT := hid (sentOk_take d.logTerm d.term d.ents k hlt)
        have HL := hid (lastT_take d.logTerm d.ents k hlt)
        have HNO : Hid (sentOk d.logTerm d.term (d.ents.take (k + 1)) = false → messageOk d = false) := by
          intro h
          have h2 := sentOk_not _ _ _ _ h
          rw [HH.out]
          unfold cargoOk
          rw [if_pos HK3.out, h2]
          simp
        obtain ⟨tm, htm⟩ : ∃ tm, lastT d.logTerm (d.ents.take k) = tm := ⟨_, rfl⟩
        rw [htm] at HT ⊢
        clear htm
        have X0 := cell_regrown x0
        have X1 := cell_regrown x1
        have X2 := cell_regrown x2
        have Y8 := cell_regrown c8
        have Y3 := cell_regrown c3
        clear x0 x1 x2 c0 c3 c9 c10 c11 C'
        have C' := fun dd os => Calls.regrown_of (w := wr) (d := dd) (os := os) (specEntryOk_any d.ents[k] (HS.out.each _ (List.getElem_mem hlt)) _)
        cases hE : entryOk d.ents[k] with
        | false =>
          have hr := hid (HNO.out (by rw [HT.out, hE]; simp))
          rw [hE] at C'
          clear hE
          have C := hid C'
          clear C'
          go_wp2
          clear c8
          refine wp_region_quiet_below (by kernel_rfl) (by kernel_rfl) ?_
          repeat (first | go_big_quiet_step (first | (go_at_call 40; exact C.out _ _) | fail) | quiet_step (first | (go_at_call 40; exact C.out _ _) | fail))
          refine wpQuiet_nil ?_
          intro _ hw'
          obtain ⟨⟨dq, osq⟩, hw''⟩ := hw'
          subst hw''
          have BW := hid (below_regrown wr dq osq)
          have BQ : Hid (Below w.heap.size w (grow (redrawn wr dq) osq)) := BR.out.trans (BW.out.mono BR.out.size)
          have XQ := hid (XR.out.on BW.out XR.out.lt)
          have q0 := X0 dq osq
          generalize grow (redrawn wr dq) osq = wq at BQ XQ BW q0 ⊢
          clear X0 X1 X2 Y3 Y8 C
          go_wp2
          go_ret
          exact ⟨by rw [hr.out]; rfl, BQ.out⟩
        | true =>
          rw [hE] at C'
          by_cases hF : d.ents[k].term < tm
          · have hr := hid (HNO.out (by rw [HT.out, hE, decide_eq_false (by omega : ¬ tm ≤ d.ents[k].term)]; simp))
            have hFd : decide (d.ents[k].term < tm) = true := decide_eq_true hF
            clear hE
            have C := hid C'
            clear C'
            go_wp2
            clear c8
            refine wp_region_quiet_below (by kernel_rfl) (by kernel_rfl) ?_
            repeat (first | go_big_quiet_step (first | (go_at_call 40; exact C.out _ _) | fail) | quiet_step (first | (go_at_call 40; exact C.out _ _) | fail))
            refine wpQuiet_nil ?_
            intro _ hw'
            obtain ⟨⟨dq, osq⟩, hw''⟩ := hw'
            subst hw''
            have BW := hid (below_regrown wr dq osq)
            have BQ : Hid (Below w.heap.size w (grow (redrawn wr dq) osq)) := BR.out.trans (BW.out.mono BR.out.size)
            have XQ := hid (XR.out.on BW.out XR.out.lt)
            have q0 := X0 dq osq
            generalize grow (redrawn wr dq) osq = wq at BQ XQ BW q0 ⊢
            clear X0 X1 X2 Y3 Y8 C
            go_wp2
            go_ret
            exact ⟨by rw [hr.out]; rfl, BQ.out⟩
          · have hFd : decide (d.ents[k].term < tm) = false := decide_eq_false hF
            by_cases hG : d.term < d.ents[k].term
            · have hr := hid (HNO.out (by rw [HT.out, hE, decide_eq_false (by omega : ¬ d.ents[k].term ≤ d.term)]; simp))
              have hGd : decide (d.term < d.ents[k].term) = true := decide_eq_true hG
              clear hE
              have C := hid C'
              clear C'
              go_wp2
              clear c8
              refine wp_region_quiet_below (by kernel_rfl) (by kernel_rfl) ?_
              repeat (first | go_big_quiet_step (first | (go_at_call 40; exact C.out _ _) | fail) | quiet_step (first | (go_at_call 40; exact C.out _ _) | fail))
              refine wpQuiet_nil ?_
              intro _ hw'
              obtain ⟨⟨dq, osq⟩, hw''⟩ := hw'
              subst hw''
              have BW := hid (below_regrown wr dq osq)
              have BQ : Hid (Below w.heap.size w (grow (redrawn wr dq) osq)) := BR.out.trans (BW.out.mono BR.out.size)
              have XQ := hid (XR.out.on BW.out XR.out.lt)
              have q0 := X0 dq osq
              generalize grow (redrawn wr dq) osq = wq at BQ XQ BW q0 ⊢
              clear X0 X1 X2 Y3 Y8 C
              go_wp2
              go_ret
              exact ⟨by rw [hr.out]; rfl, BQ.out⟩
            · have RT2 : Hid (sentOk d.logTerm d.term (d.ents.take (k + 1)) = true) := by show _ = _; rw [HT.out, hE, RT.out, decide_eq_true (by omega : tm ≤ d.ents[k].term), decide_eq_true (by omega : d.ents[k].term ≤ d.term)]; rfl
              have hGd : decide (d.term < d.ents[k].term) = false := decide_eq_false hG
              clear hE
              have C := hid C'
              clear C'
              go_wp2
              clear c8
              refine wp_region_quiet_below (by kernel_rfl) (by kernel_rfl) ?_
              repeat (first | go_big_quiet_step (first | (go_at_call 40; exact C.out _ _) | fail) | quiet_step (first | (go_at_call 40; exact C.out _ _) | fail))
              refine wpQuiet_nil ?_
              intro _ hw'
              obtain ⟨⟨dq, osq⟩, hw''⟩ := hw'
              subst hw''
              have BW := hid (below_regrown wr dq osq)
              have BQ : Hid (Below w.heap.size w (grow (redrawn wr dq) osq)) := BR.out.trans (BW.out.mono BR.out.size)
              have XQ := hid (XR.out.on BW.out XR.out.lt)
              have q0 := X0 dq osq
              generalize grow (redrawn wr dq) osq = wq at BQ XQ BW q0 ⊢
              clear X0 X1 X2 Y3 Y8 C
              have d8 := XQ.out.cell (j := 8) rfl
              go_wp2
              go_roundg g
              case measure => omega
              case rel => exact ⟨k + 1, by omega, by go_num, by rw [HL.out], RT2, BQ, XQ⟩
  · clear hk3
    go_enter Tryz.func15, Tryz.ntmps15
    go_wp2_with (first | (go_at_call 39; refine (cN.out _ _ _ _).mono ?_; rintro e w1 ⟨rfl, hw⟩; rw [hw]; clear hw w1) | fail)
    go_loopg [3, 4] d.ents.length (fun g y i wr => ∃ (k : Nat), k + g = d.ents.length ∧ i = .int .i64 k ∧ y = .int .i64 (lastT d.logTerm (d.ents.take k)) ∧ Hid (sentOk d.logTerm d.term (d.ents.take k) = true) ∧ Hid (Below w.heap.size w wr) ∧ Hid (BlockIs wr w.heap.size 39 [.int .i64 d.kind, .int .i64 d.src, .int .i64 d.dst, .int .i64 d.term, .int .i64 d.index, .int .i64 d.logTerm, .int .i64 d.commit, .bool d.ok, .slice ao d.ents.length ac, .slice bo d.conf.length bc, .string d.data, .bool d.last]))
    case atStart => exact ⟨0, by omega, rfl, rfl, rfl, HB, HX⟩
    case round =>
      obtain ⟨k, hkg, rfl, rfl, RT, BR, XR⟩ := hrel
      clear HB HX c0 c1 c2 c3 c4 c5 c6 c7 c8 c9 c10 c11
      have c0 := XR.out.cell (j := 0) rfl
      have c3 := XR.out.cell (j := 3) rfl
      have c8 := XR.out.cell (j := 8) rfl
      have c9 := XR.out.cell (j := 9) rfl
      have c10 := XR.out.cell (j := 10) rfl
      have c11 := XR.out.cell (j := 11) rfl
      cases gk with
      | zero =>
        have hlt : ¬ (k : Int) < (d.ents.length : Int) := by omega
        have HT : Hid (sentOk d.logTerm d.term d.ents = true) := by
          have := RT.out
          rw [List.take_of_length_le (by omega)] at this
          exact this
        by_cases k5 : d.kind = 5
        · have hq5 : (d.kind == 5) = true := beq_iff_eq.2 k5
          have HZ : Hid (messageOk d = (confOk d.conf && decide (d.data.size ≤ 60))) := by
            show _ = _
            have hz : d.ents.length = 0 := Classical.byContradiction fun h => HNK.out ⟨by omega, by omega⟩
            rw [HH.out, cargoOk, if_neg (by omega), if_pos k5, decide_eq_true hz, Bool.true_and]
          clear k5
          have cC' := fun w hz => specConfOk_any bo d.conf bc HS.out.conf w hz
          cases hc : confOk d.conf with
          | false =>
            have HR : Hid (messageOk d = false) := by show _ = _; rw [HZ.out, hc, Bool.false_and]
            rw [hc] at cC'
            have cC := hid cC'
            clear cC' hc
            go_wp2_with fail
            refine (cC.out _ (HI.out.on BR.out)).mono ?_
            rintro e w1 ⟨rfl, b1⟩
            have B1 := hid (below_via BR.out b1)
            clear b1 cC
            go_wp2
            go_ret
            exact ⟨by rw [HR.out]; rfl, B1.out⟩
          | true =>
            have HR : Hid (messageOk d = decide ((d.data.size : Int) ≤ 60)) := by show _ = _; rw [HZ.out, hc, Bool.true_and]; congr 1; exact propext (by omega)
            rw [hc] at cC'
            have cC := hid cC'
            clear cC' hc
            go_wp2_with fail
            refine (cC.out _ (HI.out.on BR.out)).mono ?_
            rintro e w1 ⟨rfl, b1⟩
            have B1 := hid (below_via BR.out b1)
            have d10 := (XR.out.on b1 XR.out.lt).cell (j := 10) rfl
            clear b1 cC
            go_wp2
            go_ret
            exact ⟨by rw [HR.out]; rfl, B1.out⟩
        have HZ : Hid (messageOk d = (decide (d.conf.length = 0) && decide (d.data.size = 0) && !d.last)) := by
          show _ = _
          rw [HH.out]
          unfold cargoOk bareOk
          by_cases k3 : d.kind = 3
          · rw [if_pos k3, HT.out, decide_eq_true (by omega : d.ents.length ≤ 4)]; rfl
          · have hz : d.ents.length = 0 := Classical.byContradiction fun h => HNK.out ⟨by omega, k3⟩
            rw [if_neg k3, if_neg k5, decide_eq_true hz]; rfl
        have hv := empty_txt17 d.data
        by_cases z0 : (d.conf.length : Int) = 0
        rotate_left
        · have HR : Hid (messageOk d = false) := by show _ = _; rw [HZ.out, decide_eq_false (by omega : ¬ d.conf.length = 0)]; rfl
          clear hv
          have hz0 : ((d.conf.length : Int) == 0) = false := beq_eq_false_iff_ne.2 z0
          go_wp2
          go_ret
          exact ⟨by rw [HR.out]; rfl, BR.out⟩
        have HZ0 := hid z0
        have hz0 : ((d.conf.length : Int) == 0) = true := beq_iff_eq.2 z0
        clear z0
        by_cases v0 : d.data.size = 0
        rotate_left
        · have HR : Hid (messageOk d = false) := by show _ = _; rw [HZ.out, decide_eq_false v0, Bool.and_false]; rfl
          rw [decide_eq_false v0] at hv
          go_wp2
          go_ret
          exact ⟨by rw [HR.out]; rfl, BR.out⟩
        have HR : Hid (messageOk d = !d.last) := by show _ = _; rw [HZ.out, decide_eq_true (by have := HZ0.out; omega : d.conf.length = 0), decide_eq_true v0]; rfl
        rw [decide_eq_true v0] at hv
        clear v0
        go_wp2
        go_ret
        exact ⟨by rw [HR.out]; rfl, BR.out⟩
      | succ g =>
        exfalso
        omega
end Go.Proofs.YtohmfmajgehadaaGreatDoor
