/-
  The walk of spec.Shared: what two logs share.
  The walk of spec.DrawPlaces: twelve numbers below ten thousand, in memory of their own.
-/
import Derived.Test.YtjkgjnpifdafaaaJoint32
import Derived.Test.YtjkgjnpifdafaaaJoint34
import Derived.Test.YtjkgjnpifdafaaaJoint1
import Derived.Lib.QuietBelow
import Derived.Test.YtjkgjnpifdafaaaJoint2
import Derived.Test.YtjkgjnpifdafaaaJoint37
import Derived.Test.YtjkgjnpifdafaaaJoint3
namespace Go.Proofs.Ytjkgjnpifdafaaa
open Go.RowKit Go.Sort

theorem bytes_extS {a b : ByteArray} (h : a.toList = b.toList) : a = b := by
  rw [ByteArray.toList_eq, ByteArray.toList_eq] at h
  exact ByteArray.ext (Array.toList_inj.1 h)
/-- a right log's terms are none below 0 -/
theorem logTerm_pos {s t i : Int} {l : List EntD} (h : logOk s t l = true) (hh : logHas s l.length i = true) : 0 ≤ logTerm s t l i := by
  have hb := logOk_iff.1 h
  have hi : s ≤ i ∧ i ≤ s + l.length := by simpa [logHas] using hh
  rw [logTerm]
  split
  · exact hb.2.1.1
  · rename_i hne
    rw [if_pos (by omega)]
    have hlt : (i - s - 1).toNat < l.length := by omega
    rw [List.getD_eq_getElem?_getD, List.getElem?_eq_getElem hlt]
    exact (entryOk_bd (termsOk_each t l hb.2.2.2.2 _ (List.getElem_mem hlt))).1
theorem logTerm_neg {s t i : Int} {l : List EntD} (hh : ¬ logHas s l.length i = true) : logTerm s t l i = -1 := by
  have hi : ¬ (s ≤ i ∧ i ≤ s + l.length) := by simpa [logHas] using hh
  rw [logTerm, if_neg (by omega), if_neg (by omega)]
theorem shared_iff {s t s' t' i : Int} {l l' : List EntD} (h : logOk s t l = true) : (0 ≤ logTerm s t l i ∧ logTerm s t l i = logTerm s' t' l' i) ↔ (logHas s l.length i = true ∧ logHas s' l'.length i = true ∧ logTerm s t l i = logTerm s' t' l' i) := by
  constructor
  · rintro ⟨h1, h2⟩
    refine ⟨?_, ?_, h2⟩
    · by_cases hh : logHas s l.length i = true
      · exact hh
      · rw [logTerm_neg hh] at h1; omega
    · by_cases hh : logHas s' l'.length i = true
      · exact hh
      · rw [h2, logTerm_neg hh] at h1; omega
  · rintro ⟨h1, _, h3⟩
    exact ⟨logTerm_pos h h1, h3⟩

set_option maxRecDepth 1000000 in
set_option maxHeartbeats 2000000 in
theorem specShared_any (s t : Int) (ao : Option Addr) (l : List EntD) (cap : Nat) (s' t' : Int) (bo : Option Addr) (l' : List EntD) (cap' : Nat) (hl : l.length ≤ 1048576) (hl' : l'.length ≤ 1048576) (hsm : ∀ f ∈ l, f.data.size ≤ 1048576) (hsm' : ∀ f ∈ l', f.data.size ≤ 1048576) (w : World) (ha : EntsAt w ao l) (hb : EntsAt w bo l') :
    Calls Try.prog 20 #[.agg #[.int .i64 s, .int .i64 t, .slice ao l.length cap], .agg #[.int .i64 s', .int .i64 t', .slice bo l'.length cap']] w fun e w' => e = .returned (.int .i64 (sharedAns s t l s' t' l')) ∧ Below w.heap.size w w' := by
  have HA := hid ha
  have HB := hid hb
  have hx0 : BlockIs (w.alloc (.cells #[.int .i64 s, .int .i64 t, .slice ao l.length cap] 31)) w.heap.size 31 [.int .i64 s, .int .i64 t, .slice ao l.length cap] := heap_alloc_new w _
  have X0 := hid (hx0.on (below_more (Below.refl _ _) (.cells #[.int .i64 s', .int .i64 t', .slice bo l'.length cap'] 31)) hx0.lt)
  have hx1 : BlockIs ((w.alloc (.cells #[.int .i64 s, .int .i64 t, .slice ao l.length cap] 31)).alloc (.cells #[.int .i64 s', .int .i64 t', .slice bo l'.length cap'] 31)) (w.heap.size + 1) 31 [.int .i64 s', .int .i64 t', .slice bo l'.length cap'] := by
    have := heap_alloc_new (w.alloc (.cells #[.int .i64 s, .int .i64 t, .slice ao l.length cap] 31)) (.cells #[.int .i64 s', .int .i64 t', .slice bo l'.length cap'] 31)
    rw [show (w.alloc (.cells #[.int .i64 s, .int .i64 t, .slice ao l.length cap] 31)).heap.size = w.heap.size + 1 by simp [World.alloc, -World.alloc_eq]] at this
    exact this
  have X1 := hid hx1
  have B0 := hid (below_more (below_more (Below.refl w.heap.size w) (.cells #[.int .i64 s, .int .i64 t, .slice ao l.length cap] 31)) (.cells #[.int .i64 s', .int .i64 t', .slice bo l'.length cap'] 31))
  clear hx0 hx1 ha hb
  have CO' := specLogOk_any s t ao l cap hl hsm _ (HA.out.on B0.out)
  go_enter Try.func20, Try.ntmps20
  cases hO : logOk s t l with
  | false =>
    have hr := hid (sharedAns_bad (s := s) (t := t) (l := l) (s' := s') (t' := t') (l' := l') (by simp [hO]))
    rw [hO] at CO'
    have CO := hid CO'
    clear CO' hO
    go_wp2_with fail
    refine Calls.mono CO.out ?_
    rintro e w1 ⟨rfl, b1⟩
    have B1 := hid (below_via B0.out b1)
    clear b1 CO
    go_wp2
    go_ret
    exact ⟨by rw [hr.out]; rfl, B1.out⟩
  | true =>
  rw [hO] at CO'
  have CO := hid CO'
  clear CO'
  go_wp2_with fail
  refine Calls.mono CO.out ?_
  rintro e w1 ⟨rfl, b1⟩
  have B1 := hid (below_via B0.out b1)
  have Y0 := hid (X0.out.on b1 X0.out.lt)
  have Y1 := hid (X1.out.on b1 X1.out.lt)
  have y10 := Y1.out.cell (j := 0) rfl
  have y11 := Y1.out.cell (j := 1) rfl
  have y12 := Y1.out.cell (j := 2) rfl
  clear b1 CO X0 X1 B0
  have CP' := specLogOk_any s' t' bo l' cap' hl' hsm' _ (HB.out.on B1.out)
  cases hO' : logOk s' t' l' with
  | false =>
    have hr := hid (sharedAns_bad (s := s) (t := t) (l := l) (s' := s') (t' := t') (l' := l') (by simp [hO']))
    rw [hO'] at CP'
    have CP := hid CP'
    clear CP' hO' hO
    go_wp2_with fail
    refine Calls.mono CP.out ?_
    rintro e w2 ⟨rfl, b2⟩
    have B2 := hid (below_via B1.out b2)
    clear b2 CP y10 y11 y12
    go_wp2
    go_ret
    exact ⟨by rw [hr.out]; rfl, B2.out⟩
  | true =>
  rw [hO'] at CP'
  have CP := hid CP'
  clear CP'
  go_wp2_with fail
  refine Calls.mono CP.out ?_
  rintro e w2 ⟨rfl, b2⟩
  have B2 := hid (below_via B1.out b2)
  have Z0 := hid (Y0.out.on b2 Y0.out.lt)
  have Z1 := hid (Y1.out.on b2 Y1.out.lt)
  have z00 := Z0.out.cell (j := 0) rfl
  have z01 := Z0.out.cell (j := 1) rfl
  have z02 := Z0.out.cell (j := 2) rfl
  have z10 := Z1.out.cell (j := 0) rfl
  have z11 := Z1.out.cell (j := 1) rfl
  have z12 := Z1.out.cell (j := 2) rfl
  clear b2 CP Y0 Y1 B1 y10 y11 y12
  have hbd := logOk_iff.1 hO
  have hbd' := logOk_iff.1 hO'
  rcases Int.lt_or_le s s' with hle | hle
  · have hst : max s s' = s' := by omega
    have hNO := hid (fun hn => sharedAns_no (s := s) (t := t) (l := l) (s' := s') (t' := t') (l' := l') hO hO' hn)
    have hYES := hid (fun hn => sharedAns_yes (s := s) (t := t) (l := l) (s' := s') (t' := t') (l' := l') hO hO' hn)
    have hIFF := hid (shared_iff (i := s') (s' := s') (t' := t') (l' := l') hO)
    rw [hst] at hNO hYES
    go_wp2
    have Q00 := cell_regrown z00
    have Q01 := cell_regrown z01
    have Q02 := cell_regrown z02
    have Q10 := cell_regrown z10
    have Q11 := cell_regrown z11
    have Q12 := cell_regrown z12
    have CTa' := fun d os => Calls.regrown_of (w := w2) (d := d) (os := os) (specLogTerm_any s t s' ao l cap (by omega) hl _ (HA.out.on (below_via B2.out (below_regrown w2 d os))))
    have CTb' := fun d os => Calls.regrown_of (w := w2) (d := d) (os := os) (specLogTerm_any s' t' s' bo l' cap' (by omega) hl' _ (HB.out.on (below_via B2.out (below_regrown w2 d os))))
    obtain ⟨q1, hq1⟩ : ∃ q, logTerm s t l s' = q := ⟨_, rfl⟩
    obtain ⟨q2, hq2⟩ : ∃ q, logTerm s' t' l' s' = q := ⟨_, rfl⟩
    rw [hq1] at CTa' hIFF hNO hYES
    rw [hq2] at CTb' hIFF hNO hYES
    have CTa := hid CTa'
    have CTb := hid CTb'
    clear CTa' CTb' hq1 hq2 hst hO hO'
    by_cases h0 : q1 < 0
    · have hr := hid (hNO.out (fun q => by have := (hIFF.out.2 q).1; omega))
      have h0' : decide (q1 < 0) = true := by simpa using h0
      clear hNO hYES hIFF
      refine wp_region_quiet_below (by kernel_rfl) (by kernel_rfl) ?_
      repeat (first | go_big_quiet_step (first | (go_at_call 45; first | with_reducible exact CTa.out _ _ | with_reducible exact CTb.out _ _) | fail) | quiet_step (first | (go_at_call 45; first | with_reducible exact CTa.out _ _ | with_reducible exact CTb.out _ _) | fail))
      refine wpQuiet_nil ?_
      intro _ hw'
      obtain ⟨⟨dq, osq⟩, hw''⟩ := hw'
      subst hw''
      have b1 := below_regrown w2 dq osq
      generalize grow (redrawn w2 dq) osq = w3 at b1 ⊢
      have B3 := hid (below_via B2.out b1)
      clear b1 Q00 Q01 Q02 Q10 Q11 Q12 CTa CTb z00 z01 z02 z10 z11 z12
      go_wp2
      go_ret
      exact ⟨by rw [hr.out]; rfl, B3.out⟩
    by_cases h12 : q1 = q2
    case neg =>
      have hr := hid (hNO.out (fun q => h12 (hIFF.out.2 q).2))
      have h0' : decide (q1 < 0) = false := by simpa using h0
      clear hNO hYES hIFF
      refine wp_region_quiet_below (by kernel_rfl) (by kernel_rfl) ?_
      repeat (first | go_big_quiet_step (first | (go_at_call 45; first | with_reducible exact CTa.out _ _ | with_reducible exact CTb.out _ _) | fail) | quiet_step (first | (go_at_call 45; first | with_reducible exact CTa.out _ _ | with_reducible exact CTb.out _ _) | fail))
      refine wpQuiet_nil ?_
      intro _ hw'
      obtain ⟨⟨dq, osq⟩, hw''⟩ := hw'
      subst hw''
      have b1 := below_regrown w2 dq osq
      generalize grow (redrawn w2 dq) osq = w3 at b1 ⊢
      have B3 := hid (below_via B2.out b1)
      clear b1 Q00 Q01 Q02 Q10 Q11 Q12 CTa CTb z00 z01 z02 z10 z11 z12
      go_wp2
      go_ret
      exact ⟨by rw [hr.out]; rfl, B3.out⟩
    have hhas := hIFF.out.1 ⟨by omega, h12⟩
    have hr := hid (hYES.out hhas)
    have h0' : decide (q1 < 0) = false := by simpa using h0
    have hr1 : s ≤ s' ∧ s' ≤ s + l.length := by simpa [logHas] using hhas.1
    have hr2 : s' ≤ s' ∧ s' ≤ s' + l'.length := by simpa [logHas] using hhas.2.1
    subst h12
    clear hNO hYES hIFF hhas
    obtain ⟨k, hk⟩ : ∃ k : Nat, (s' - s).toNat = k := ⟨_, rfl⟩
    obtain ⟨k', hk'⟩ : ∃ k : Nat, (s' - s').toNat = k := ⟨_, rfl⟩
    rw [hk, hk'] at hr
    obtain ⟨N, hN⟩ : ∃ N : Int, s' + alike (l.drop k) (l'.drop k') = N := ⟨_, rfl⟩
    rw [hN] at hr
    refine wp_region_quiet_below (by kernel_rfl) (by kernel_rfl) ?_
    repeat (first | go_big_quiet_step (first | (go_at_call 45; first | with_reducible exact CTa.out _ _ | with_reducible exact CTb.out _ _) | fail) | quiet_step (first | (go_at_call 45; first | with_reducible exact CTa.out _ _ | with_reducible exact CTb.out _ _) | fail))
    refine wpQuiet_nil ?_
    intro _ hw'
    obtain ⟨⟨dq, osq⟩, hw''⟩ := hw'
    subst hw''
    have b1 := below_regrown w2 dq osq
    generalize grow (redrawn w2 dq) osq = w3 at b1 ⊢
    have B3 := hid (below_via B2.out b1)
    have V0 := hid (Z0.out.on b1 Z0.out.lt)
    have V1 := hid (Z1.out.on b1 Z1.out.lt)
    clear b1 Q00 Q01 Q02 Q10 Q11 Q12 CTa CTb z00 z01 z02 z10 z11 z12 Z0 Z1 h0 h0'
    go_wp2
    go_loopg [6] (l.length - k) (fun g y wr => ∃ (p p' : Nat) (a : Int), p + g = l.length ∧ p' ≤ l'.length ∧ y = .int .i64 a ∧ a - s = (p : Int) ∧ a - s' = (p' : Int) ∧ Hid (a + (alike (l.drop p) (l'.drop p') : Int) = N) ∧ Hid (Below w.heap.size w wr) ∧ Hid (BlockIs wr w.heap.size 31 [.int .i64 s, .int .i64 t, .slice ao l.length cap]) ∧ Hid (BlockIs wr (w.heap.size + 1) 31 [.int .i64 s', .int .i64 t', .slice bo l'.length cap']))
    case atStart => exact ⟨k, k', s', by omega, by omega, rfl, by omega, by omega, hN, B3, V0, V1⟩
    case round =>
      obtain ⟨p, p', a, hpg, hpl, rfl, hp, hp', AL, BR, XR, YR⟩ := hrel
      clear B3 V0 V1 hN
      have Q00 := cell_regrown (XR.out.cell (j := 0) rfl)
      have Q01 := cell_regrown (XR.out.cell (j := 1) rfl)
      have Q02 := cell_regrown (XR.out.cell (j := 2) rfl)
      have Q10 := cell_regrown (YR.out.cell (j := 0) rfl)
      have Q11 := cell_regrown (YR.out.cell (j := 1) rfl)
      have Q12 := cell_regrown (YR.out.cell (j := 2) rfl)
      have CLa := hid (fun d os => Calls.regrown_of (w := wr) (d := d) (os := os) (l06Last_any s t ao l cap (by omega) hl _))
      have CLb := hid (fun d os => Calls.regrown_of (w := wr) (d := d) (os := os) (l06Last_any s' t' bo l' cap' (by omega) hl' _))
      cases gk with
      | zero =>
        have hlt : decide (a < s + (l.length : Int)) = false := by simp; omega
        have hr2 := hid (show N = a by rw [← AL.out, List.drop_of_length_le (l := l) (by omega), alike_nil]; simp)
        go_wp2
        refine wp_region_quiet_below (by kernel_rfl) (by kernel_rfl) ?_
        repeat (first | go_big_quiet_step (first | (go_at_call 38; first | with_reducible exact CLa.out _ _ | with_reducible exact CLb.out _ _) | fail) | quiet_step (first | (go_at_call 38; first | with_reducible exact CLa.out _ _ | with_reducible exact CLb.out _ _) | fail))
        refine wpQuiet_nil ?_
        intro _ hw'
        obtain ⟨⟨dq, osq⟩, hw''⟩ := hw'
        subst hw''
        have b1 := below_regrown wr dq osq
        generalize grow (redrawn wr dq) osq = wq at b1 ⊢
        have BQ := hid (below_via BR.out b1)
        clear b1 CLa CLb Q00 Q01 Q02 Q10 Q11 Q12 XR YR BR
        go_wp2
        go_ret
        exact ⟨by rw [hr.out, hr2.out]; rfl, BQ.out⟩
      | succ g =>
        have hlt : decide (a < s + (l.length : Int)) = true := by simp; omega
        have hpL : p < l.length := by omega
        by_cases hm2 : p' < l'.length
        · have hmd : decide (a < s' + (l'.length : Int)) = true := by simp; omega
          have hlt' : (p : Int) < (l.length : Int) := by omega
          have hmt' : (p' : Int) < (l'.length : Int) := by omega
          have hneL : l ≠ [] := by intro e; rw [e] at hpL; simp at hpL
          have hneM : l' ≠ [] := by intro e; rw [e] at hm2; simp at hm2
          obtain ⟨b, off, rfl, hc⟩ := HA.out.on BR.out hneL
          obtain ⟨x0, x1, x2⟩ := hc p hpL
          obtain ⟨b', off', rfl, hc'⟩ := HB.out.on BR.out hneM
          obtain ⟨y0, y1, y2⟩ := hc' p' hm2
          clear hc hc'
          by_cases hq : sameEnt l[p] l'[p'] = true
          · have AL2 : Hid ((a + 1) + (alike (l.drop (p + 1)) (l'.drop (p' + 1)) : Int) = N) := by
              show _ = _
              rw [← AL.out, alike_step hpL hm2 hq]
              omega
            have hq0 := sameEnt_iff.1 hq
            rw [hq0.1] at x0
            rw [hq0.2.1] at x1
            rw [hq0.2.2] at x2
            have E0 := cell_regrown x0
            have E1 := cell_regrown x1
            have E2 := cell_regrown x2
            have F0 := cell_regrown y0
            have F1 := cell_regrown y1
            have F2 := cell_regrown y2
            clear x0 x1 x2 y0 y1 y2 hq hq0
            go_wp2
            refine wp_region_quiet_below (by kernel_rfl) (by kernel_rfl) ?_
            repeat (first | go_big_quiet_step (first | (go_at_call 38; first | with_reducible exact CLa.out _ _ | with_reducible exact CLb.out _ _) | fail) | quiet_step (first | (go_at_call 38; first | with_reducible exact CLa.out _ _ | with_reducible exact CLb.out _ _) | fail))
            refine wpQuiet_nil ?_
            intro _ hw'
            obtain ⟨⟨dq, osq⟩, hw''⟩ := hw'
            subst hw''
            have b1 := below_regrown wr dq osq
            generalize grow (redrawn wr dq) osq = wq at b1 ⊢
            have BQ := hid (below_via BR.out b1)
            have XQ := hid (XR.out.on b1 XR.out.lt)
            have YQ := hid (YR.out.on b1 YR.out.lt)
            clear b1 CLa CLb Q00 Q01 Q02 Q10 Q11 Q12 E0 E1 E2 F0 F1 F2 XR YR BR
            go_wp2
            go_roundg g
            case measure => omega
            case rel => exact ⟨p + 1, p' + 1, a + 1, by omega, by omega, by go_num, by omega, by omega, AL2, BQ, XQ, YQ⟩
          · have hr2 := hid (show N = a by rw [← AL.out, alike_stop hpL hm2 hq]; simp)
            have hq3 : ¬ (l[p].term = l'[p'].term ∧ l[p].kind = l'[p'].kind ∧ l[p].data = l'[p'].data) := fun q => hq (sameEnt_iff.2 q)
            clear hq
            obtain ⟨p0, hp0⟩ : ∃ p0, l[p].term = p0 := ⟨_, rfl⟩
            obtain ⟨p1, hp1⟩ : ∃ p0, l[p].kind = p0 := ⟨_, rfl⟩
            obtain ⟨p2, hp2⟩ : ∃ p0, l[p].data = p0 := ⟨_, rfl⟩
            obtain ⟨r0, hr0⟩ : ∃ p0, l'[p'].term = p0 := ⟨_, rfl⟩
            obtain ⟨r1, hr1⟩ : ∃ p0, l'[p'].kind = p0 := ⟨_, rfl⟩
            obtain ⟨r2, hr22⟩ : ∃ p0, l'[p'].data = p0 := ⟨_, rfl⟩
            rw [hp0] at x0 hq3
            rw [hp1] at x1 hq3
            rw [hp2] at x2 hq3
            rw [hr0] at y0 hq3
            rw [hr1] at y1 hq3
            rw [hr22] at y2 hq3
            clear hp0 hp1 hp2 hr0 hr1 hr22
            by_cases h0 : p0 = r0
            · by_cases h1 : p1 = r1
              · have h2 : ¬ p2 = r2 := fun e => hq3 ⟨h0, h1, e⟩
                have h2' : (p2.toList == r2.toList) = false := by
                  rw [beq_eq_false_iff_ne]
                  intro e
                  exact h2 (bytes_extS e)
                subst h0 h1
                clear hq3 h2
                have E0 := cell_regrown x0
                have E1 := cell_regrown x1
                have E2 := cell_regrown x2
                have F0 := cell_regrown y0
                have F1 := cell_regrown y1
                have F2 := cell_regrown y2
                clear x0 x1 x2 y0 y1 y2
                go_wp2
                refine wp_region_quiet_below (by kernel_rfl) (by kernel_rfl) ?_
                repeat (first | go_big_quiet_step (first | (go_at_call 38; first | with_reducible exact CLa.out _ _ | with_reducible exact CLb.out _ _) | fail) | quiet_step (first | (go_at_call 38; first | with_reducible exact CLa.out _ _ | with_reducible exact CLb.out _ _) | fail))
                refine wpQuiet_nil ?_
                intro _ hw'
                obtain ⟨⟨dq, osq⟩, hw''⟩ := hw'
                subst hw''
                have b1 := below_regrown wr dq osq
                generalize grow (redrawn wr dq) osq = wq at b1 ⊢
                have BQ := hid (below_via BR.out b1)
                clear b1 CLa CLb Q00 Q01 Q02 Q10 Q11 Q12 XR YR BR
                go_wp2
                go_ret
                exact ⟨by rw [hr.out, hr2.out]; rfl, BQ.out⟩
              · subst h0
                clear hq3
                have h1' : decide (p1 = r1) = false := by simpa using h1
                have E0 := cell_regrown x0
                have E1 := cell_regrown x1
                have E2 := cell_regrown x2
                have F0 := cell_regrown y0
                have F1 := cell_regrown y1
                have F2 := cell_regrown y2
                clear x0 x1 x2 y0 y1 y2
                go_wp2
                refine wp_region_quiet_below (by kernel_rfl) (by kernel_rfl) ?_
                repeat (first | go_big_quiet_step (first | (go_at_call 38; first | with_reducible exact CLa.out _ _ | with_reducible exact CLb.out _ _) | fail) | quiet_step (first | (go_at_call 38; first | with_reducible exact CLa.out _ _ | with_reducible exact CLb.out _ _) | fail))
                refine wpQuiet_nil ?_
                intro _ hw'
                obtain ⟨⟨dq, osq⟩, hw''⟩ := hw'
                subst hw''
                have b1 := below_regrown wr dq osq
                generalize grow (redrawn wr dq) osq = wq at b1 ⊢
                have BQ := hid (below_via BR.out b1)
                clear b1 CLa CLb Q00 Q01 Q02 Q10 Q11 Q12 XR YR BR
                go_wp2
                go_ret
                exact ⟨by rw [hr.out, hr2.out]; rfl, BQ.out⟩
            · clear hq3
              have h0' : decide (p0 = r0) = false := by simpa using h0
              have E0 := cell_regrown x0
              have E1 := cell_regrown x1
              have E2 := cell_regrown x2
              have F0 := cell_regrown y0
              have F1 := cell_regrown y1
              have F2 := cell_regrown y2
              clear x0 x1 x2 y0 y1 y2
              go_wp2
              refine wp_region_quiet_below (by kernel_rfl) (by kernel_rfl) ?_
              repeat (first | go_big_quiet_step (first | (go_at_call 38; first | with_reducible exact CLa.out _ _ | with_reducible exact CLb.out _ _) | fail) | quiet_step (first | (go_at_call 38; first | with_reducible exact CLa.out _ _ | with_reducible exact CLb.out _ _) | fail))
              refine wpQuiet_nil ?_
              intro _ hw'
              obtain ⟨⟨dq, osq⟩, hw''⟩ := hw'
              subst hw''
              have b1 := below_regrown wr dq osq
              generalize grow (redrawn wr dq) osq = wq at b1 ⊢
              have BQ := hid (below_via BR.out b1)
              clear b1 CLa CLb Q00 Q01 Q02 Q10 Q11 Q12 XR YR BR
              go_wp2
              go_ret
              exact ⟨by rw [hr.out, hr2.out]; rfl, BQ.out⟩
        · have hmd : decide (a < s' + (l'.length : Int)) = false := by simp; omega
          have hr2 := hid (show N = a by rw [← AL.out, List.drop_of_length_le (l := l') (by omega), alike_nil']; simp)
          go_wp2
          refine wp_region_quiet_below (by kernel_rfl) (by kernel_rfl) ?_
          repeat (first | go_big_quiet_step (first | (go_at_call 38; first | with_reducible exact CLa.out _ _ | with_reducible exact CLb.out _ _) | fail) | quiet_step (first | (go_at_call 38; first | with_reducible exact CLa.out _ _ | with_reducible exact CLb.out _ _) | fail))
          refine wpQuiet_nil ?_
          intro _ hw'
          obtain ⟨⟨dq, osq⟩, hw''⟩ := hw'
          subst hw''
          have b1 := below_regrown wr dq osq
          generalize grow (redrawn wr dq) osq = wq at b1 ⊢
          have BQ := hid (below_via BR.out b1)
          clear b1 CLa CLb Q00 Q01 Q02 Q10 Q11 Q12 XR YR BR
          go_wp2
          go_ret
          exact ⟨by rw [hr.out, hr2.out]; rfl, BQ.out⟩
  · have hst : max s s' = s := by omega
    have hNO := hid (fun hn => sharedAns_no (s := s) (t := t) (l := l) (s' := s') (t' := t') (l' := l') hO hO' hn)
    have hYES := hid (fun hn => sharedAns_yes (s := s) (t := t) (l := l) (s' := s') (t' := t') (l' := l') hO hO' hn)
    have hIFF := hid (shared_iff (i := s) (s' := s') (t' := t') (l' := l') hO)
    rw [hst] at hNO hYES
    go_wp2
    have Q00 := cell_regrown z00
    have Q01 := cell_regrown z01
    have Q02 := cell_regrown z02
    have Q10 := cell_regrown z10
    have Q11 := cell_regrown z11
    have Q12 := cell_regrown z12
    have CTa' := fun d os => Calls.regrown_of (w := w2) (d := d) (os := os) (specLogTerm_any s t s ao l cap (by omega) hl _ (HA.out.on (below_via B2.out (below_regrown w2 d os))))
    have CTb' := fun d os => Calls.regrown_of (w := w2) (d := d) (os := os) (specLogTerm_any s' t' s bo l' cap' (by omega) hl' _ (HB.out.on (below_via B2.out (below_regrown w2 d os))))
    obtain ⟨q1, hq1⟩ : ∃ q, logTerm s t l s = q := ⟨_, rfl⟩
    obtain ⟨q2, hq2⟩ : ∃ q, logTerm s' t' l' s = q := ⟨_, rfl⟩
    rw [hq1] at CTa' hIFF hNO hYES
    rw [hq2] at CTb' hIFF hNO hYES
    have CTa := hid CTa'
    have CTb := hid CTb'
    clear CTa' CTb' hq1 hq2 hst hO hO'
    by_cases h0 : q1 < 0
    · have hr := hid (hNO.out (fun q => by have := (hIFF.out.2 q).1; omega))
      have h0' : decide (q1 < 0) = true := by simpa using h0
      clear hNO hYES hIFF
      refine wp_region_quiet_below (by kernel_rfl) (by kernel_rfl) ?_
      repeat (first | go_big_quiet_step (first | (go_at_call 45; first | with_reducible exact CTa.out _ _ | with_reducible exact CTb.out _ _) | fail) | quiet_step (first | (go_at_call 45; first | with_reducible exact CTa.out _ _ | with_reducible exact CTb.out _ _) | fail))
      refine wpQuiet_nil ?_
      intro _ hw'
      obtain ⟨⟨dq, osq⟩, hw''⟩ := hw'
      subst hw''
      have b1 := below_regrown w2 dq osq
      generalize grow (redrawn w2 dq) osq = w3 at b1 ⊢
      have B3 := hid (below_via B2.out b1)
      clear b1 Q00 Q01 Q02 Q10 Q11 Q12 CTa CTb z00 z01 z02 z10 z11 z12
      go_wp2
      go_ret
      exact ⟨by rw [hr.out]; rfl, B3.out⟩
    by_cases h12 : q1 = q2
    case neg =>
      have hr := hid (hNO.out (fun q => h12 (hIFF.out.2 q).2))
      have h0' : decide (q1 < 0) = false := by simpa using h0
      clear hNO hYES hIFF
      refine wp_region_quiet_below (by kernel_rfl) (by kernel_rfl) ?_
      repeat (first | go_big_quiet_step (first | (go_at_call 45; first | with_reducible exact CTa.out _ _ | with_reducible exact CTb.out _ _) | fail) | quiet_step (first | (go_at_call 45; first | with_reducible exact CTa.out _ _ | with_reducible exact CTb.out _ _) | fail))
      refine wpQuiet_nil ?_
      intro _ hw'
      obtain ⟨⟨dq, osq⟩, hw''⟩ := hw'
      subst hw''
      have b1 := below_regrown w2 dq osq
      generalize grow (redrawn w2 dq) osq = w3 at b1 ⊢
      have B3 := hid (below_via B2.out b1)
      clear b1 Q00 Q01 Q02 Q10 Q11 Q12 CTa CTb z00 z01 z02 z10 z11 z12
      go_wp2
      go_ret
      exact ⟨by rw [hr.out]; rfl, B3.out⟩
    have hhas := hIFF.out.1 ⟨by omega, h12⟩
    have hr := hid (hYES.out hhas)
    have h0' : decide (q1 < 0) = false := by simpa using h0
    have hr1 : s ≤ s ∧ s ≤ s + l.length := by simpa [logHas] using hhas.1
    have hr2 : s' ≤ s ∧ s ≤ s' + l'.length := by simpa [logHas] using hhas.2.1
    subst h12
    clear hNO hYES hIFF hhas
    obtain ⟨k, hk⟩ : ∃ k : Nat, (s - s).toNat = k := ⟨_, rfl⟩
    obtain ⟨k', hk'⟩ : ∃ k : Nat, (s - s').toNat = k := ⟨_, rfl⟩
    rw [hk, hk'] at hr
    obtain ⟨N, hN⟩ : ∃ N : Int, s + alike (l.drop k) (l'.drop k') = N := ⟨_, rfl⟩
    rw [hN] at hr
    refine wp_region_quiet_below (by kernel_rfl) (by kernel_rfl) ?_
    repeat (first | go_big_quiet_step (first | (go_at_call 45; first | with_reducible exact CTa.out _ _ | with_reducible exact CTb.out _ _) | fail) | quiet_step (first | (go_at_call 45; first | with_reducible exact CTa.out _ _ | with_reducible exact CTb.out _ _) | fail))
    refine wpQuiet_nil ?_
    intro _ hw'
    obtain ⟨⟨dq, osq⟩, hw''⟩ := hw'
    subst hw''
    have b1 := below_regrown w2 dq osq
    generalize grow (redrawn w2 dq) osq = w3 at b1 ⊢
    have B3 := hid (below_via B2.out b1)
    have V0 := hid (Z0.out.on b1 Z0.out.lt)
    have V1 := hid (Z1.out.on b1 Z1.out.lt)
    clear b1 Q00 Q01 Q02 Q10 Q11 Q12 CTa CTb z00 z01 z02 z10 z11 z12 Z0 Z1 h0 h0'
    go_wp2
    go_loopg [6] (l.length - k) (fun g y wr => ∃ (p p' : Nat) (a : Int), p + g = l.length ∧ p' ≤ l'.length ∧ y = .int .i64 a ∧ a - s = (p : Int) ∧ a - s' = (p' : Int) ∧ Hid (a + (alike (l.drop p) (l'.drop p') : Int) = N) ∧ Hid (Below w.heap.size w wr) ∧ Hid (BlockIs wr w.heap.size 31 [.int .i64 s, .int .i64 t, .slice ao l.length cap]) ∧ Hid (BlockIs wr (w.heap.size + 1) 31 [.int .i64 s', .int .i64 t', .slice bo l'.length cap']))
    case atStart => exact ⟨k, k', s, by omega, by omega, rfl, by omega, by omega, hN, B3, V0, V1⟩
    case round =>
      obtain ⟨p, p', a, hpg, hpl, rfl, hp, hp', AL, BR, XR, YR⟩ := hrel
      clear B3 V0 V1 hN
      have Q00 := cell_regrown (XR.out.cell (j := 0) rfl)
      have Q01 := cell_regrown (XR.out.cell (j := 1) rfl)
      have Q02 := cell_regrown (XR.out.cell (j := 2) rfl)
      have Q10 := cell_regrown (YR.out.cell (j := 0) rfl)
      have Q11 := cell_regrown (YR.out.cell (j := 1) rfl)
      have Q12 := cell_regrown (YR.out.cell (j := 2) rfl)
      have CLa := hid (fun d os => Calls.regrown_of (w := wr) (d := d) (os := os) (l06Last_any s t ao l cap (by omega) hl _))
      have CLb := hid (fun d os => Calls.regrown_of (w := wr) (d := d) (os := os) (l06Last_any s' t' bo l' cap' (by omega) hl' _))
      cases gk with
      | zero =>
        have hlt : decide (a < s + (l.length : Int)) = false := by simp; omega
        have hr2 := hid (show N = a by rw [← AL.out, List.drop_of_length_le (l := l) (by omega), alike_nil]; simp)
        go_wp2
        refine wp_region_quiet_below (by kernel_rfl) (by kernel_rfl) ?_
        repeat (first | go_big_quiet_step (first | (go_at_call 38; first | with_reducible exact CLa.out _ _ | with_reducible exact CLb.out _ _) | fail) | quiet_step (first | (go_at_call 38; first | with_reducible exact CLa.out _ _ | with_reducible exact CLb.out _ _) | fail))
        refine wpQuiet_nil ?_
        intro _ hw'
        obtain ⟨⟨dq, osq⟩, hw''⟩ := hw'
        subst hw''
        have b1 := below_regrown wr dq osq
        generalize grow (redrawn wr dq) osq = wq at b1 ⊢
        have BQ := hid (below_via BR.out b1)
        clear b1 CLa CLb Q00 Q01 Q02 Q10 Q11 Q12 XR YR BR
        go_wp2
        go_ret
        exact ⟨by rw [hr.out, hr2.out]; rfl, BQ.out⟩
      | succ g =>
        have hlt : decide (a < s + (l.length : Int)) = true := by simp; omega
        have hpL : p < l.length := by omega
        by_cases hm2 : p' < l'.length
        · have hmd : decide (a < s' + (l'.length : Int)) = true := by simp; omega
          have hlt' : (p : Int) < (l.length : Int) := by omega
          have hmt' : (p' : Int) < (l'.length : Int) := by omega
          have hneL : l ≠ [] := by intro e; rw [e] at hpL; simp at hpL
          have hneM : l' ≠ [] := by intro e; rw [e] at hm2; simp at hm2
          obtain ⟨b, off, rfl, hc⟩ := HA.out.on BR.out hneL
          obtain ⟨x0, x1, x2⟩ := hc p hpL
          obtain ⟨b', off', rfl, hc'⟩ := HB.out.on BR.out hneM
          obtain ⟨y0, y1, y2⟩ := hc' p' hm2
          clear hc hc'
          by_cases hq : sameEnt l[p] l'[p'] = true
          · have AL2 : Hid ((a + 1) + (alike (l.drop (p + 1)) (l'.drop (p' + 1)) : Int) = N) := by
              show _ = _
              rw [← AL.out, alike_step hpL hm2 hq]
              omega
            have hq0 := sameEnt_iff.1 hq
            rw [hq0.1] at x0
            rw [hq0.2.1] at x1
            rw [hq0.2.2] at x2
            have E0 := cell_regrown x0
            have E1 := cell_regrown x1
            have E2 := cell_regrown x2
            have F0 := cell_regrown y0
            have F1 := cell_regrown y1
            have F2 := cell_regrown y2
            clear x0 x1 x2 y0 y1 y2 hq hq0
            go_wp2
            refine wp_region_quiet_below (by kernel_rfl) (by kernel_rfl) ?_
            repeat (first | go_big_quiet_step (first | (go_at_call 38; first | with_reducible exact CLa.out _ _ | with_reducible exact CLb.out _ _) | fail) | quiet_step (first | (go_at_call 38; first | with_reducible exact CLa.out _ _ | with_reducible exact CLb.out _ _) | fail))
            refine wpQuiet_nil ?_
            intro _ hw'
            obtain ⟨⟨dq, osq⟩, hw''⟩ := hw'
            subst hw''
            have b1 := below_regrown wr dq osq
            generalize grow (redrawn wr dq) osq = wq at b1 ⊢
            have BQ := hid (below_via BR.out b1)
            have XQ := hid (XR.out.on b1 XR.out.lt)
            have YQ := hid (YR.out.on b1 YR.out.lt)
            clear b1 CLa CLb Q00 Q01 Q02 Q10 Q11 Q12 E0 E1 E2 F0 F1 F2 XR YR BR
            go_wp2
            go_roundg g
            case measure => omega
            case rel => exact ⟨p + 1, p' + 1, a + 1, by omega, by omega, by go_num, by omega, by omega, AL2, BQ, XQ, YQ⟩
          · have hr2 := hid (show N = a by rw [← AL.out, alike_stop hpL hm2 hq]; simp)
            have hq3 : ¬ (l[p].term = l'[p'].term ∧ l[p].kind = l'[p'].kind ∧ l[p].data = l'[p'].data) := fun q => hq (sameEnt_iff.2 q)
            clear hq
            obtain ⟨p0, hp0⟩ : ∃ p0, l[p].term = p0 := ⟨_, rfl⟩
            obtain ⟨p1, hp1⟩ : ∃ p0, l[p].kind = p0 := ⟨_, rfl⟩
            obtain ⟨p2, hp2⟩ : ∃ p0, l[p].data = p0 := ⟨_, rfl⟩
            obtain ⟨r0, hr0⟩ : ∃ p0, l'[p'].term = p0 := ⟨_, rfl⟩
            obtain ⟨r1, hr1⟩ : ∃ p0, l'[p'].kind = p0 := ⟨_, rfl⟩
            obtain ⟨r2, hr22⟩ : ∃ p0, l'[p'].data = p0 := ⟨_, rfl⟩
            rw [hp0] at x0 hq3
            rw [hp1] at x1 hq3
            rw [hp2] at x2 hq3
            rw [hr0] at y0 hq3
            rw [hr1] at y1 hq3
            rw [hr22] at y2 hq3
            clear hp0 hp1 hp2 hr0 hr1 hr22
            by_cases h0 : p0 = r0
            · by_cases h1 : p1 = r1
              · have h2 : ¬ p2 = r2 := fun e => hq3 ⟨h0, h1, e⟩
                have h2' : (p2.toList == r2.toList) = false := by
                  rw [beq_eq_false_iff_ne]
                  intro e
                  exact h2 (bytes_extS e)
                subst h0 h1
                clear hq3 h2
                have E0 := cell_regrown x0
                have E1 := cell_regrown x1
                have E2 := cell_regrown x2
                have F0 := cell_regrown y0
                have F1 := cell_regrown y1
                have F2 := cell_regrown y2
                clear x0 x1 x2 y0 y1 y2
                go_wp2
                refine wp_region_quiet_below (by kernel_rfl) (by kernel_rfl) ?_
                repeat (first | go_big_quiet_step (first | (go_at_call 38; first | with_reducible exact CLa.out _ _ | with_reducible exact CLb.out _ _) | fail) | quiet_step (first | (go_at_call 38; first | with_reducible exact CLa.out _ _ | with_reducible exact CLb.out _ _) | fail))
                refine wpQuiet_nil ?_
                intro _ hw'
                obtain ⟨⟨dq, osq⟩, hw''⟩ := hw'
                subst hw''
                have b1 := below_regrown wr dq osq
                generalize grow (redrawn wr dq) osq = wq at b1 ⊢
                have BQ := hid (below_via BR.out b1)
                clear b1 CLa CLb Q00 Q01 Q02 Q10 Q11 Q12 XR YR BR
                go_wp2
                go_ret
                exact ⟨by rw [hr.out, hr2.out]; rfl, BQ.out⟩
              · subst h0
                clear hq3
                have h1' : decide (p1 = r1) = false := by simpa using h1
                have E0 := cell_regrown x0
                have E1 := cell_regrown x1
                have E2 := cell_regrown x2
                have F0 := cell_regrown y0
                have F1 := cell_regrown y1
                have F2 := cell_regrown y2
                clear x0 x1 x2 y0 y1 y2
                go_wp2
                refine wp_region_quiet_below (by kernel_rfl) (by kernel_rfl) ?_
                repeat (first | go_big_quiet_step (first | (go_at_call 38; first | with_reducible exact CLa.out _ _ | with_reducible exact CLb.out _ _) | fail) | quiet_step (first | (go_at_call 38; first | with_reducible exact CLa.out _ _ | with_reducible exact CLb.out _ _) | fail))
                refine wpQuiet_nil ?_
                intro _ hw'
                obtain ⟨⟨dq, osq⟩, hw''⟩ := hw'
                subst hw''
                have b1 := below_regrown wr dq osq
                generalize grow (redrawn wr dq) osq = wq at b1 ⊢
                have BQ := hid (below_via BR.out b1)
                clear b1 CLa CLb Q00 Q01 Q02 Q10 Q11 Q12 XR YR BR
                go_wp2
                go_ret
                exact ⟨by rw [hr.out, hr2.out]; rfl, BQ.out⟩
            · clear hq3
              have h0' : decide (p0 = r0) = false := by simpa using h0
              have E0 := cell_regrown x0
              have E1 := cell_regrown x1
              have E2 := cell_regrown x2
              have F0 := cell_regrown y0
              have F1 := cell_regrown y1
              have F2 := cell_regrown y2
              clear x0 x1 x2 y0 y1 y2
              go_wp2
              refine wp_region_quiet_below (by kernel_rfl) (by kernel_rfl) ?_
              repeat (first | go_big_quiet_step (first | (go_at_call 38; first | with_reducible exact CLa.out _ _ | with_reducible exact CLb.out _ _) | fail) | quiet_step (first | (go_at_call 38; first | with_reducible exact CLa.out _ _ | with_reducible exact CLb.out _ _) | fail))
              refine wpQuiet_nil ?_
              intro _ hw'
              obtain ⟨⟨dq, osq⟩, hw''⟩ := hw'
              subst hw''
              have b1 := below_regrown wr dq osq
              generalize grow (redrawn wr dq) osq = wq at b1 ⊢
              have BQ := hid (below_via BR.out b1)
              clear b1 CLa CLb Q00 Q01 Q02 Q10 Q11 Q12 XR YR BR
              go_wp2
              go_ret
              exact ⟨by rw [hr.out, hr2.out]; rfl, BQ.out⟩
        · have hmd : decide (a < s' + (l'.length : Int)) = false := by simp; omega
          have hr2 := hid (show N = a by rw [← AL.out, List.drop_of_length_le (l := l') (by omega), alike_nil']; simp)
          go_wp2
          refine wp_region_quiet_below (by kernel_rfl) (by kernel_rfl) ?_
          repeat (first | go_big_quiet_step (first | (go_at_call 38; first | with_reducible exact CLa.out _ _ | with_reducible exact CLb.out _ _) | fail) | quiet_step (first | (go_at_call 38; first | with_reducible exact CLa.out _ _ | with_reducible exact CLb.out _ _) | fail))
          refine wpQuiet_nil ?_
          intro _ hw'
          obtain ⟨⟨dq, osq⟩, hw''⟩ := hw'
          subst hw''
          have b1 := below_regrown wr dq osq
          generalize grow (redrawn wr dq) osq = wq at b1 ⊢
          have BQ := hid (below_via BR.out b1)
          clear b1 CLa CLb Q00 Q01 Q02 Q10 Q11 Q12 XR YR BR
          go_wp2
          go_ret
          exact ⟨by rw [hr.out, hr2.out]; rfl, BQ.out⟩
end Go.Proofs.Ytjkgjnpifdafaaa

namespace Go.Proofs.Ytjkgjnpifdafaaa
open Go.RowKit

/-- twelve places -/
def Places (w : World) (v : Value) : Prop := ∃ g cap, v = .slice (some ⟨g, 0, none⟩) 12 cap ∧ 12 ≤ cap ∧ ∀ j, j < 12 → ∃ z : Nat, z < 10000 ∧ w.cell? ⟨g, j, none⟩ = some (.int .i64 z)

theorem places_of {w : World} {base : Nat} {v : Value} {l : List Int} (hl : l.length = 12) (hb : ∀ z ∈ l, 0 ≤ z ∧ z < 10000) (h : w.ownsRow base 3 1 v 12 (is l)) : Places w v := by
  obtain ⟨_, (⟨_, h0⟩ | ⟨g, cap, cur, rfl, _, hg, hc, _, hs, ht⟩)⟩ := h
  · omega
  · refine ⟨g, cap, rfl, hc, fun j hj => ?_⟩
    have hjl : j < l.length := by omega
    have hz := hb l[j] (List.getElem_mem hjl)
    refine ⟨l[j].toNat, by omega, ?_⟩
    have e1 : (cur.toList.take (12 * 1))[j]? = some (.int .i64 l[j]) := by rw [ht]; simp [is, hjl]
    rw [List.getElem?_take_of_lt (by omega)] at e1
    have e2 : cur[j]? = some (.int .i64 l[j]) := by simpa using e1
    rw [show ((l[j].toNat : Nat) : Int) = l[j] by omega]
    simp [World.cell?, hg, e2]

set_option maxRecDepth 1000000 in
set_option maxHeartbeats 1000000 in
theorem drawPlaces_any (ao : Option Addr) (len cap : Nat) (hlen : len ≤ 1048576) (hcap : len ≤ cap) (w : World) (hr : Bytes w ao len) :
    Calls Try.prog 27 #[.slice ao len cap] w fun e w' => ∃ v, e = .returned v ∧ Places w' v ∧ Below w.heap.size w w' := by
  obtain ⟨i0, hi, hz0, hz1, hz2⟩ := info_parts places_info3
  have HR := (show Hid (Bytes w ao len) from hr)
  clear hr
  go_enter Try.func27, Try.ntmps27
  go_wp2_with fail
  refine (l01New_any ao len cap hlen hcap _ HR.out).mono ?_
  rintro e w0 ⟨rfl, k0, b0⟩
  have K0 := (show Hid (CurAt w0 w.heap.size) from k0)
  clear k0
  obtain ⟨C, hC⟩ : ∃ C, w.heap.size = C := ⟨_, rfl⟩
  have B0 := (show Hid (Below w.heap.size w w0) from b0)
  rw [hC] at K0 ⊢
  clear b0
  go_wp2_with fail
  refine (l01Byte_any C _ K0.out).mono ?_
  rintro e w1 ⟨x0, rfl, x00, x01, k1, q1⟩
  have K1 := (show Hid (CurAt w1 C) from k1)
  have B1 : Hid (Below w.heap.size w w1) := below_cur B0.out (by rw [hC]; exact q1)
  have hCl := k1.lt
  clear k1 q1 x00 x01
  have HC := (show Hid _ from hC)
  clear hC
  go_wp2
  go_loopw [4, 5] (fun v i wr => ∃ (k : Nat) (l : List Int), k ≤ 12 ∧ i = .int .i64 k ∧ l.length = k ∧ Hid (∀ z ∈ l, 0 ≤ z ∧ z < 10000) ∧ wr.ownsRow w1.heap.size 3 1 v k (is l) ∧ Hid (CurAt wr C) ∧ Hid (w1.grownBy wr (some C))) (fun _ i _ => 12 - (intOf i).toNat)
  case atStart => exact ⟨0, [], by omega, rfl, rfl, fun z h => by simp at h, World.ownsRow_made w1 #[] 0 (Nat.le_refl _) (Nat.zero_le _) rfl, K1.out.kept (World.grownBy_alloc w1 _ none) (fun j h => by cases h), World.grownBy_alloc w1 _ (some C)⟩
  case round =>
    obtain ⟨k, l, hk, rfl, hl, HZ, hown, KC, GC⟩ := hrel
    have hsz := GC.out.size
    by_cases hlt : k < 12
    · go_wp2_with fail
      refine (l01Below_any C 10000 (by omega) (by omega) _ KC.out).mono ?_
      rintro e w2 ⟨x, rfl, x0, x1, k2, q2⟩
      have hown2 := kept_cur3 hown q2 hCl
      have hsz2 := q2.size
      have K2 := (show Hid (CurAt w2 C) from k2)
      have Q2 := (show Hid (wr.grownBy w2 (some C)) from q2)
      have HL := (show Hid _ from hl)
      have HX : Hid (0 ≤ x ∧ x < 10000) := ⟨x0, x1⟩
      clear k2 q2 hl
      go_wp2_with (at_builtin; refine wpList_append_own _ rfl (.tmp 15) (.tmp 18) 52 rfl w1.heap.size 3 i0 (.int .i64 0) 1 8 Try.underlying52 hi hz0 hz1 hz2 rfl (by decide) _ _ _ rfl (hown2.alloc _) ⟨w2.heap.size, 0, none⟩ 1 1 [.int .i64 x] rfl rfl (one_new _ _ _) (by intro u hu; simp at hu; subst hu; rfl) (by unfold maxLen; omega) (by omega) (by simp; omega) ?_)
      intro v' w3 hown' hgrow _
      obtain ⟨r2, r3, r4⟩ := places_step hCl (Nat.le_refl _) GC.out K2.out Q2.out hown' hgrow (fun j hj => (hown.lt j hj).1)
      have R1 : Hid ((l ++ [x]).length = k + 1) := by show _ = _; simp [HL.out]
      have RZ : Hid (∀ z ∈ l ++ [x], 0 ≤ z ∧ z < 10000) := by
        intro z hz
        rcases List.mem_append.1 hz with h | h
        · exact HZ.out z h
        · rw [List.mem_singleton.1 h]; exact HX.out
      have R3 := (show Hid (CurAt w3 C) from r3)
      have R4 := (show Hid (w1.grownBy w3 (some C)) from r4)
      clear hown' hgrow hown hown2 r3 r4
      go_wp2
      go_roundw
      case rel => exact ⟨k + 1, l ++ [x], by omega, by go_num, R1.out, RZ, r2, R3, R4⟩
      case measure => simp [intOf]; omega
    · obtain rfl : k = 12 := by omega
      have HP := (show Hid (Places wr u4) from places_of hl HZ.out hown)
      clear hown hl
      go_wp2
      go_ret
      exact ⟨_, rfl, HP.out, below_cur B1.out (by rw [HC.out]; exact GC.out)⟩
end Go.Proofs.Ytjkgjnpifdafaaa
