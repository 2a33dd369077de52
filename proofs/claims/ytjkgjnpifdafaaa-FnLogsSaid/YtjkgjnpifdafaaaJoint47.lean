/-
  The walk of impl.Shared: what two logs share.
-/
import Derived.Test.YtjkgjnpifdafaaaJoint40
import Derived.Test.YtjkgjnpifdafaaaJoint41
import Derived.Test.YtjkgjnpifdafaaaJoint44
import Derived.Test.YtjkgjnpifdafaaaJoint46
import Derived.Test.YtjkgjnpifdafaaaJoint14
namespace Go.Proofs.Ytjkgjnpifdafaaa
open Go.RowKit

set_option maxRecDepth 1000000 in
set_option maxHeartbeats 1000000 in
theorem implShared_any (s t : Int) (ao : Option Addr) (l : List EntD) (cap : Nat) (s' t' : Int) (bo : Option Addr) (l' : List EntD) (cap' : Nat) (hs : -9223372036854775808 ≤ s ∧ s ≤ 9223372036854775807) (hs' : -9223372036854775808 ≤ s' ∧ s' ≤ 9223372036854775807) (hl : l.length ≤ 1048576) (hl' : l'.length ≤ 1048576) (hcap : l.length ≤ cap) (hcap' : l'.length ≤ cap') (w : World) (ha : EntsAt w ao l) (hb : EntsAt w bo l') :
    Calls Try.prog 21 #[.agg #[.int .i64 s, .int .i64 t, .slice ao l.length cap], .agg #[.int .i64 s', .int .i64 t', .slice bo l'.length cap']] w fun e w' => e = .returned (.int .i64 (sharedAns s t l s' t' l')) ∧ Below w.heap.size w w' := by
  have HA := hid ha
  have HB := hid hb
  have hx0 : BlockIs (w.alloc (.cells #[.int .i64 s, .int .i64 t, .slice ao l.length cap] 31)) w.heap.size 31 [.int .i64 s, .int .i64 t, .slice ao l.length cap] := heap_alloc_new w _
  have X0 := hid (hx0.on (below_more (Below.refl _ _) (.cells #[.int .i64 s', .int .i64 t', .slice bo l'.length cap'] 31)) hx0.lt)
  have hx1 : BlockIs ((w.alloc (.cells #[.int .i64 s, .int .i64 t, .slice ao l.length cap] 31)).alloc (.cells #[.int .i64 s', .int .i64 t', .slice bo l'.length cap'] 31)) (w.heap.size + 1) 31 [.int .i64 s', .int .i64 t', .slice bo l'.length cap'] := by
    have := heap_alloc_new (w.alloc (.cells #[.int .i64 s, .int .i64 t, .slice ao l.length cap] 31)) (.cells #[.int .i64 s', .int .i64 t', .slice bo l'.length cap'] 31)
    rw [show (w.alloc (.cells #[.int .i64 s, .int .i64 t, .slice ao l.length cap] 31)).heap.size = w.heap.size + 1 by simp [World.alloc, -World.alloc_eq]] at this
    exact this
  have X1 := hid hx1
  have B0 := hid (below_more (below_more (Below.refl w.heap.size w) (.cells #[.int .i64 s, .int .i64 t, .slice ao l.length cap] 31)) (.cells #[.int .i64 s', .int .i64 t', .slice bo l'.length cap'] 31))
  clear hx0 hx1 ha hb
  have CO' := implLogOk_any s t ao l cap hl _ (HA.out.on B0.out)
  go_enter Try.func21, Try.ntmps21
  cases hO : logOk s t l with
  | false =>
    have hr := hid (sharedAns_bad (s := s) (t := t) (l := l) (s' := s') (t' := t') (l' := l') (by simp [hO]))
    rw [hO] at CO'
    have CO := hid CO'
    clear CO' hO
    go_wp2_with fail
    refine Calls.mono CO.out ?_
    rintro e w1 ⟨rfl, b1⟩
    have B1 := hid (below_via B0.out b1)
    clear b1 CO
    go_wp2
    go_ret
    exact ⟨by rw [hr.out]; rfl, B1.out⟩
  | true =>
  rw [hO] at CO'
  have CO := hid CO'
  clear CO'
  go_wp2_with fail
  refine Calls.mono CO.out ?_
  rintro e w1 ⟨rfl, b1⟩
  have B1 := hid (below_via B0.out b1)
  have Y0 := hid (X0.out.on b1 X0.out.lt)
  have Y1 := hid (X1.out.on b1 X1.out.lt)
  have y10 := Y1.out.cell (j := 0) rfl
  have y11 := Y1.out.cell (j := 1) rfl
  have y12 := Y1.out.cell (j := 2) rfl
  clear b1 CO X0 X1 B0
  have CP' := implLogOk_any s' t' bo l' cap' hl' _ (HB.out.on B1.out)
  cases hO' : logOk s' t' l' with
  | false =>
    have hr := hid (sharedAns_bad (s := s) (t := t) (l := l) (s' := s') (t' := t') (l' := l') (by simp [hO']))
    rw [hO'] at CP'
    have CP := hid CP'
    clear CP' hO' hO
    go_wp2_with fail
    refine Calls.mono CP.out ?_
    rintro e w2 ⟨rfl, b2⟩
    have B2 := hid (below_via B1.out b2)
    clear b2 CP y10 y11 y12
    go_wp2
    go_ret
    exact ⟨by rw [hr.out]; rfl, B2.out⟩
  | true =>
  rw [hO'] at CP'
  have CP := hid CP'
  clear CP'
  go_wp2_with fail
  refine Calls.mono CP.out ?_
  rintro e w2 ⟨rfl, b2⟩
  have B2 := hid (below_via B1.out b2)
  have Z0 := hid (Y0.out.on b2 Y0.out.lt)
  have Z1 := hid (Y1.out.on b2 Y1.out.lt)
  have z00 := Z0.out.cell (j := 0) rfl
  have z01 := Z0.out.cell (j := 1) rfl
  have z02 := Z0.out.cell (j := 2) rfl
  have z10 := Z1.out.cell (j := 0) rfl
  have z11 := Z1.out.cell (j := 1) rfl
  have z12 := Z1.out.cell (j := 2) rfl
  clear b2 CP Y0 Y1 B1 y10 y11 y12
  rcases Int.lt_or_le s s' with hle | hle
  · have hst : max s s' = s' := by omega
    have hbd := logOk_iff.1 hO
    have hbd' := logOk_iff.1 hO'
    have hst2 : s ≤ s' ∧ s' ≤ s' ∧ 0 ≤ s' ∧ s' ≤ 1000000 := by omega
    have hNO := hid (fun hn => sharedAns_no (s := s) (t := t) (l := l) (s' := s') (t' := t') (l' := l') hO hO' hn)
    have hYES := hid (fun hn => sharedAns_yes (s := s) (t := t) (l := l) (s' := s') (t' := t') (l' := l') hO hO' hn)
    rw [hst] at hNO hYES
    clear hO hO'
    go_wp2_with fail
    have cT := termAt_any s t s' ao l cap hs (by omega) hl w2 (HA.out.on B2.out)
    refine Calls.mono cT ?_
    rintro e w3 ⟨rfl, b3⟩
    have B3 := hid (below_via B2.out b3)
    have U0 := hid (Z0.out.on b3 Z0.out.lt)
    have U1 := hid (Z1.out.on b3 Z1.out.lt)
    have u10 := U1.out.cell (j := 0) rfl
    have u11 := U1.out.cell (j := 1) rfl
    have u12 := U1.out.cell (j := 2) rfl
    clear b3 Z0 Z1 B2 z00 z01 z02 z10 z11 z12 cT
    obtain ⟨h1, hh1⟩ : ∃ h, logHas s l.length s' = h := ⟨_, rfl⟩
    obtain ⟨t1, ht1⟩ : ∃ x, (if h1 = true then logTerm s t l s' else 0) = x := ⟨_, rfl⟩
    rw [hh1, ht1]
    go_wp2_with fail
    have cT := termAt_any s' t' s' bo l' cap' hs' (by omega) hl' w3 (HB.out.on B3.out)
    refine Calls.mono cT ?_
    rintro e w4 ⟨rfl, b4⟩
    have B4 := hid (below_via B3.out b4)
    have V0 := hid (U0.out.on b4 U0.out.lt)
    have V1 := hid (U1.out.on b4 U1.out.lt)
    clear b4 U0 U1 B3 u10 u11 u12 cT
    obtain ⟨h2, hh2⟩ : ∃ h, logHas s' l'.length s' = h := ⟨_, rfl⟩
    obtain ⟨t2, ht2⟩ : ∃ x, (if h2 = true then logTerm s' t' l' s' else 0) = x := ⟨_, rfl⟩
    rw [hh2, ht2]
    rw [hh1, hh2] at hNO hYES
    cases h1 with
    | false =>
      have hr := hid (hNO.out (by simp))
      clear hNO hYES ht1 ht2 hh1 hh2
      go_wp2
      go_ret
      exact ⟨by rw [hr.out]; rfl, B4.out⟩
    | true =>
    cases h2 with
    | false =>
      have hr := hid (hNO.out (by simp))
      clear hNO hYES ht1 ht2 hh1 hh2
      go_wp2
      go_ret
      exact ⟨by rw [hr.out]; rfl, B4.out⟩
    | true =>
    rw [if_pos rfl] at ht1 ht2
    by_cases h12 : t1 = t2
    · have hr := hid (hYES.out (by rw [ht1, ht2]; exact ⟨rfl, rfl, h12⟩))
      have hr1 : s ≤ s' ∧ s' ≤ s + l.length := by simpa [logHas] using hh1
      have hr2 : s' ≤ s' ∧ s' ≤ s' + l'.length := by simpa [logHas] using hh2
      subst h12
      clear hNO hYES ht1 ht2 hh1 hh2
      obtain ⟨k, hk⟩ : ∃ k : Nat, (s' - s).toNat = k := ⟨_, rfl⟩
      obtain ⟨k', hk'⟩ : ∃ k : Nat, (s' - s').toNat = k := ⟨_, rfl⟩
      have hik : s' - s = (k : Int) := by omega
      have hik' : s' - s' = (k' : Int) := by omega
      rw [hk, hk'] at hr
      have hal := alike_le (l.drop k) (l'.drop k')
      have hdl : (l.drop k).length ≤ 60 := by simp; omega
      have hadd : IntKind.i64.wrap (s' + (alike (l.drop k) (l'.drop k') : Int)) = s' + (alike (l.drop k) (l'.drop k') : Int) := by rw [IntKind.wrap_i64]; omega
      go_wp2
      refine wp_region_each (N := 55) (by kernel_rfl) (by kernel_rfl) rfl (by kernel_rfl) (fun W => Below w4.heap.size w4 W) (fun j v _ W => match j with | 0 => v = .int .i64 s' | 1 => v = .agg #[.int .i64 s, .int .i64 t, .slice ao l.length cap] | 2 => v = .int .i64 s' | 3 => ∃ vo, v = .slice vo (l.drop k).length (l.drop k).length ∧ EntsAt W vo (l.drop k) | 4 => v = .agg #[.int .i64 s', .int .i64 t', .slice bo l'.length cap'] | 5 => v = .int .i64 s' | 6 => ∃ vo, v = .slice vo (l'.drop k').length (l'.drop k').length ∧ EntsAt W vo (l'.drop k') | 7 => v = .int .i64 (alike (l.drop k) (l'.drop k')) | 8 => v = .int .i64 (s' + alike (l.drop k) (l'.drop k')) | 9 => v = .int .i64 (s' + alike (l.drop k) (l'.drop k')) | _ => True) (fun i => i) (fun _ _ => false) (fun _ x y => Below x.heap.size x y) (fun _ => 0) (by kernel_rfl) (fun _ _ => rfl) ?_ (below_drewN (Below.refl _ _) 1) ?_ ?_
      · intro i j v u x y hij hdd hwt hxy hg
        match j, hg with
        | 0, hg => exact hg
        | 1, hg => exact hg
        | 2, hg => exact hg
        | 3, hg =>
          obtain ⟨vo, e1, e2⟩ := hg
          exact ⟨vo, e1, e2.on hxy⟩
        | 4, hg => exact hg
        | 5, hg => exact hg
        | 6, hg =>
          obtain ⟨vo, e1, e2⟩ := hg
          exact ⟨vo, e1, e2.on hxy⟩
        | 7, hg => exact hg
        | 8, hg => exact hg
        | 9, hg => exact hg
        | n + 10, _ => exact trivial
      · refine ⟨?_, ?_, ?_, ?_, ?_, ?_, ?_, ?_, ?_, ?_, trivial⟩
        · intro A W hC hg hb
          have h5 : A.eval (.tmp 5) = .int .i64 s' := hb 5 (base_of (by kernel_rfl))
          exact does_value (v := .int .i64 s') (w' := W) (by simp only [execOp, h5]; simp [go_sem]) ⟨rfl, hC, Below.refl _ _⟩
        · intro A W hC hg hb
          have h2 : A.eval (.tmp 2) = .pointer (some ⟨w.heap.size, 0, none⟩) := hb 2 (base_of (by kernel_rfl))
          have hc0 := (V0.out.on hC V0.out.lt).cell (j := 0) rfl
          have hc1 := (V0.out.on hC V0.out.lt).cell (j := 1) rfl
          have hc2 := (V0.out.on hC V0.out.lt).cell (j := 2) rfl
          exact does_value (v := .agg #[.int .i64 s, .int .i64 t, .slice ao l.length cap]) (w' := W) (by simp only [execOp, h2]; simp [go_sem, hc0, hc1, hc2]) ⟨rfl, hC, Below.refl _ _⟩
        · intro A W hC hg hb
          have h5 : A.eval (.tmp 5) = .int .i64 s' := hb 5 (base_of (by kernel_rfl))
          exact does_value (v := .int .i64 s') (w' := W) (by simp only [execOp, h5]; simp [go_sem]) ⟨rfl, hC, Below.refl _ _⟩
        · intro A W hC hg hb
          have h47 : A.eval (.tmp 47) = .agg #[.int .i64 s, .int .i64 t, .slice ao l.length cap] := hg 1 47 (by decide) rfl (by simp [Op.operands, Call.operands]) (by kernel_rfl) rfl
          have h48 : A.eval (.tmp 48) = .int .i64 s' := hg 2 48 (by decide) rfl (by simp [Op.operands, Call.operands]) (by kernel_rfl) rfl
          simp [go_sem] at h47 h48
          refine does_enter (f := 47) (args := #[.agg #[.int .i64 s, .int .i64 t, .slice ao l.length cap], .int .i64 s']) (w' := W) (by simp [go_sem, h47, h48]) ?_
          refine (entriesBehind_any s t s' k ao l cap hik (by omega) hl hcap W (HA.out.on (below_via B4.out hC))).mono ?_
          rintro e W' ⟨vo, rfl, he, hb'⟩
          exact ⟨_, rfl, ⟨vo, rfl, he⟩, below_via hC hb', hb'⟩
        · intro A W hC hg hb
          have h3 : A.eval (.tmp 3) = .pointer (some ⟨w.heap.size + 1, 0, none⟩) := hb 3 (base_of (by kernel_rfl))
          have hc0 := (V1.out.on hC V1.out.lt).cell (j := 0) rfl
          have hc1 := (V1.out.on hC V1.out.lt).cell (j := 1) rfl
          have hc2 := (V1.out.on hC V1.out.lt).cell (j := 2) rfl
          exact does_value (v := .agg #[.int .i64 s', .int .i64 t', .slice bo l'.length cap']) (w' := W) (by simp only [execOp, h3]; simp [go_sem, hc0, hc1, hc2]) ⟨rfl, hC, Below.refl _ _⟩
        · intro A W hC hg hb
          have h5 : A.eval (.tmp 5) = .int .i64 s' := hb 5 (base_of (by kernel_rfl))
          exact does_value (v := .int .i64 s') (w' := W) (by simp only [execOp, h5]; simp [go_sem]) ⟨rfl, hC, Below.refl _ _⟩
        · intro A W hC hg hb
          have h50 : A.eval (.tmp 50) = .agg #[.int .i64 s', .int .i64 t', .slice bo l'.length cap'] := hg 4 50 (by decide) rfl (by simp [Op.operands, Call.operands]) (by kernel_rfl) rfl
          have h51 : A.eval (.tmp 51) = .int .i64 s' := hg 5 51 (by decide) rfl (by simp [Op.operands, Call.operands]) (by kernel_rfl) rfl
          simp [go_sem] at h50 h51
          refine does_enter (f := 47) (args := #[.agg #[.int .i64 s', .int .i64 t', .slice bo l'.length cap'], .int .i64 s']) (w' := W) (by simp [go_sem, h50, h51]) ?_
          refine (entriesBehind_any s' t' s' k' bo l' cap' hik' (by omega) hl' hcap' W (HB.out.on (below_via B4.out hC))).mono ?_
          rintro e W' ⟨vo, rfl, he, hb'⟩
          exact ⟨_, rfl, ⟨vo, rfl, he⟩, below_via hC hb', hb'⟩
        · intro A W hC hg hb
          have g3 := hg 3 49 (by decide) rfl (by simp [Op.operands, Call.operands]) (by kernel_rfl) rfl
          have g6 := hg 6 52 (by decide) rfl (by simp [Op.operands, Call.operands]) (by kernel_rfl) rfl
          obtain ⟨vo, h49, he⟩ := g3
          obtain ⟨vo', h52, he'⟩ := g6
          simp [go_sem] at h49 h52
          refine does_enter (f := 48) (args := #[.slice vo (l.drop k).length (l.drop k).length, .slice vo' (l'.drop k').length (l'.drop k').length]) (w' := W) (by simp [go_sem, h49, h52]) ?_
          refine (sameBeginning_any vo vo' (l.drop k) (l'.drop k') _ _ (by simp; omega) (by simp; omega) W he he').mono ?_
          rintro e W' ⟨rfl, hb'⟩
          exact ⟨_, rfl, rfl, below_via hC hb', hb'⟩
        · intro A W hC hg hb
          have h46 : A.eval (.tmp 46) = .int .i64 s' := hg 0 46 (by decide) rfl (by simp [Op.operands]) (by kernel_rfl) rfl
          have h53 : A.eval (.tmp 53) = .int .i64 (alike (l.drop k) (l'.drop k')) := hg 7 53 (by decide) rfl (by simp [Op.operands]) (by kernel_rfl) rfl
          exact does_value (v := .int .i64 (s' + alike (l.drop k) (l'.drop k'))) (w' := W) (by simp only [execOp, h46, h53]; simp [go_sem, hadd]) ⟨rfl, hC, Below.refl _ _⟩
        · intro A W hC hg hb
          have h54 : A.eval (.tmp 54) = .int .i64 (s' + alike (l.drop k) (l'.drop k')) := hg 8 54 (by decide) rfl (by simp [Op.operands]) (by kernel_rfl) rfl
          exact does_value (v := .int .i64 (s' + alike (l.drop k) (l'.drop k'))) (w' := W) (by simp only [execOp, h54]; simp [go_sem]) ⟨rfl, hC, Below.refl _ _⟩
      · intro vs W' hC hg
        have hok := hg 9 (by decide) (fun k => rfl)
        change vs 9 = _ at hok
        clear hg
        have BL := hid (below_via B4.out hC)
        change Exit.then _ _ _ (laidBy _ vs _ 10 _) W'
        simp only [laidBy, if_true, dstAt, List.getElem?_toArray, List.getElem?_cons_succ, List.getElem?_cons_zero, Option.bind_some]
        simp only [Act.put, List.setIfInBounds_toArray, List.set_cons_succ, List.set_cons_zero]
        rw [hok]
        clear hok hC
        go_wp2
        go_ret
        exact ⟨by rw [hr.out]; rfl, BL.out⟩
    · have hr := hid (hNO.out (by rw [ht1, ht2]; exact fun q => h12 q.2.2))
      clear hNO hYES ht1 ht2 hh1 hh2
      go_wp2
      go_ret
      exact ⟨by rw [hr.out]; rfl, B4.out⟩
  · have hst : max s s' = s := by omega
    have hbd := logOk_iff.1 hO
    have hbd' := logOk_iff.1 hO'
    have hst2 : s ≤ s ∧ s' ≤ s ∧ 0 ≤ s ∧ s ≤ 1000000 := by omega
    have hNO := hid (fun hn => sharedAns_no (s := s) (t := t) (l := l) (s' := s') (t' := t') (l' := l') hO hO' hn)
    have hYES := hid (fun hn => sharedAns_yes (s := s) (t := t) (l := l) (s' := s') (t' := t') (l' := l') hO hO' hn)
    rw [hst] at hNO hYES
    clear hO hO'
    go_wp2_with fail
    have cT := termAt_any s t s ao l cap hs (by omega) hl w2 (HA.out.on B2.out)
    refine Calls.mono cT ?_
    rintro e w3 ⟨rfl, b3⟩
    have B3 := hid (below_via B2.out b3)
    have U0 := hid (Z0.out.on b3 Z0.out.lt)
    have U1 := hid (Z1.out.on b3 Z1.out.lt)
    have u10 := U1.out.cell (j := 0) rfl
    have u11 := U1.out.cell (j := 1) rfl
    have u12 := U1.out.cell (j := 2) rfl
    clear b3 Z0 Z1 B2 z00 z01 z02 z10 z11 z12 cT
    obtain ⟨h1, hh1⟩ : ∃ h, logHas s l.length s = h := ⟨_, rfl⟩
    obtain ⟨t1, ht1⟩ : ∃ x, (if h1 = true then logTerm s t l s else 0) = x := ⟨_, rfl⟩
    rw [hh1, ht1]
    go_wp2_with fail
    have cT := termAt_any s' t' s bo l' cap' hs' (by omega) hl' w3 (HB.out.on B3.out)
    refine Calls.mono cT ?_
    rintro e w4 ⟨rfl, b4⟩
    have B4 := hid (below_via B3.out b4)
    have V0 := hid (U0.out.on b4 U0.out.lt)
    have V1 := hid (U1.out.on b4 U1.out.lt)
    clear b4 U0 U1 B3 u10 u11 u12 cT
    obtain ⟨h2, hh2⟩ : ∃ h, logHas s' l'.length s = h := ⟨_, rfl⟩
    obtain ⟨t2, ht2⟩ : ∃ x, (if h2 = true then logTerm s' t' l' s else 0) = x := ⟨_, rfl⟩
    rw [hh2, ht2]
    rw [hh1, hh2] at hNO hYES
    cases h1 with
    | false =>
      have hr := hid (hNO.out (by simp))
      clear hNO hYES ht1 ht2 hh1 hh2
      go_wp2
      go_ret
      exact ⟨by rw [hr.out]; rfl, B4.out⟩
    | true =>
    cases h2 with
    | false =>
      have hr := hid (hNO.out (by simp))
      clear hNO hYES ht1 ht2 hh1 hh2
      go_wp2
      go_ret
      exact ⟨by rw [hr.out]; rfl, B4.out⟩
    | true =>
    rw [if_pos rfl] at ht1 ht2
    by_cases h12 : t1 = t2
    · have hr := hid (hYES.out (by rw [ht1, ht2]; exact ⟨rfl, rfl, h12⟩))
      have hr1 : s ≤ s ∧ s ≤ s + l.length := by simpa [logHas] using hh1
      have hr2 : s' ≤ s ∧ s ≤ s' + l'.length := by simpa [logHas] using hh2
      subst h12
      clear hNO hYES ht1 ht2 hh1 hh2
      obtain ⟨k, hk⟩ : ∃ k : Nat, (s - s).toNat = k := ⟨_, rfl⟩
      obtain ⟨k', hk'⟩ : ∃ k : Nat, (s - s').toNat = k := ⟨_, rfl⟩
      have hik : s - s = (k : Int) := by omega
      have hik' : s - s' = (k' : Int) := by omega
      rw [hk, hk'] at hr
      have hal := alike_le (l.drop k) (l'.drop k')
      have hdl : (l.drop k).length ≤ 60 := by simp; omega
      have hadd : IntKind.i64.wrap (s + (alike (l.drop k) (l'.drop k') : Int)) = s + (alike (l.drop k) (l'.drop k') : Int) := by rw [IntKind.wrap_i64]; omega
      go_wp2
      refine wp_region_each (N := 55) (by kernel_rfl) (by kernel_rfl) rfl (by kernel_rfl) (fun W => Below w4.heap.size w4 W) (fun j v _ W => match j with | 0 => v = .int .i64 s | 1 => v = .agg #[.int .i64 s, .int .i64 t, .slice ao l.length cap] | 2 => v = .int .i64 s | 3 => ∃ vo, v = .slice vo (l.drop k).length (l.drop k).length ∧ EntsAt W vo (l.drop k) | 4 => v = .agg #[.int .i64 s', .int .i64 t', .slice bo l'.length cap'] | 5 => v = .int .i64 s | 6 => ∃ vo, v = .slice vo (l'.drop k').length (l'.drop k').length ∧ EntsAt W vo (l'.drop k') | 7 => v = .int .i64 (alike (l.drop k) (l'.drop k')) | 8 => v = .int .i64 (s + alike (l.drop k) (l'.drop k')) | 9 => v = .int .i64 (s + alike (l.drop k) (l'.drop k')) | _ => True) (fun i => i) (fun _ _ => false) (fun _ x y => Below x.heap.size x y) (fun _ => 0) (by kernel_rfl) (fun _ _ => rfl) ?_ (below_drewN (Below.refl _ _) 1) ?_ ?_
      · intro i j v u x y hij hdd hwt hxy hg
        match j, hg with
        | 0, hg => exact hg
        | 1, hg => exact hg
        | 2, hg => exact hg
        | 3, hg =>
          obtain ⟨vo, e1, e2⟩ := hg
          exact ⟨vo, e1, e2.on hxy⟩
        | 4, hg => exact hg
        | 5, hg => exact hg
        | 6, hg =>
          obtain ⟨vo, e1, e2⟩ := hg
          exact ⟨vo, e1, e2.on hxy⟩
        | 7, hg => exact hg
        | 8, hg => exact hg
        | 9, hg => exact hg
        | n + 10, _ => exact trivial
      · refine ⟨?_, ?_, ?_, ?_, ?_, ?_, ?_, ?_, ?_, ?_, trivial⟩
        · intro A W hC hg hb
          have h5 : A.eval (.tmp 5) = .int .i64 s := hb 5 (base_of (by kernel_rfl))
          exact does_value (v := .int .i64 s) (w' := W) (by simp only [execOp, h5]; simp [go_sem]) ⟨rfl, hC, Below.refl _ _⟩
        · intro A W hC hg hb
          have h2 : A.eval (.tmp 2) = .pointer (some ⟨w.heap.size, 0, none⟩) := hb 2 (base_of (by kernel_rfl))
          have hc0 := (V0.out.on hC V0.out.lt).cell (j := 0) rfl
          have hc1 := (V0.out.on hC V0.out.lt).cell (j := 1) rfl
          have hc2 := (V0.out.on hC V0.out.lt).cell (j := 2) rfl
          exact does_value (v := .agg #[.int .i64 s, .int .i64 t, .slice ao l.length cap]) (w' := W) (by simp only [execOp, h2]; simp [go_sem, hc0, hc1, hc2]) ⟨rfl, hC, Below.refl _ _⟩
        · intro A W hC hg hb
          have h5 : A.eval (.tmp 5) = .int .i64 s := hb 5 (base_of (by kernel_rfl))
          exact does_value (v := .int .i64 s) (w' := W) (by simp only [execOp, h5]; simp [go_sem]) ⟨rfl, hC, Below.refl _ _⟩
        · intro A W hC hg hb
          have h47 : A.eval (.tmp 47) = .agg #[.int .i64 s, .int .i64 t, .slice ao l.length cap] := hg 1 47 (by decide) rfl (by simp [Op.operands, Call.operands]) (by kernel_rfl) rfl
          have h48 : A.eval (.tmp 48) = .int .i64 s := hg 2 48 (by decide) rfl (by simp [Op.operands, Call.operands]) (by kernel_rfl) rfl
          simp [go_sem] at h47 h48
          refine does_enter (f := 47) (args := #[.agg #[.int .i64 s, .int .i64 t, .slice ao l.length cap], .int .i64 s]) (w' := W) (by simp [go_sem, h47, h48]) ?_
          refine (entriesBehind_any s t s k ao l cap hik (by omega) hl hcap W (HA.out.on (below_via B4.out hC))).mono ?_
          rintro e W' ⟨vo, rfl, he, hb'⟩
          exact ⟨_, rfl, ⟨vo, rfl, he⟩, below_via hC hb', hb'⟩
        · intro A W hC hg hb
          have h3 : A.eval (.tmp 3) = .pointer (some ⟨w.heap.size + 1, 0, none⟩) := hb 3 (base_of (by kernel_rfl))
          have hc0 := (V1.out.on hC V1.out.lt).cell (j := 0) rfl
          have hc1 := (V1.out.on hC V1.out.lt).cell (j := 1) rfl
          have hc2 := (V1.out.on hC V1.out.lt).cell (j := 2) rfl
          exact does_value (v := .agg #[.int .i64 s', .int .i64 t', .slice bo l'.length cap']) (w' := W) (by simp only [execOp, h3]; simp [go_sem, hc0, hc1, hc2]) ⟨rfl, hC, Below.refl _ _⟩
        · intro A W hC hg hb
          have h5 : A.eval (.tmp 5) = .int .i64 s := hb 5 (base_of (by kernel_rfl))
          exact does_value (v := .int .i64 s) (w' := W) (by simp only [execOp, h5]; simp [go_sem]) ⟨rfl, hC, Below.refl _ _⟩
        · intro A W hC hg hb
          have h50 : A.eval (.tmp 50) = .agg #[.int .i64 s', .int .i64 t', .slice bo l'.length cap'] := hg 4 50 (by decide) rfl (by simp [Op.operands, Call.operands]) (by kernel_rfl) rfl
          have h51 : A.eval (.tmp 51) = .int .i64 s := hg 5 51 (by decide) rfl (by simp [Op.operands, Call.operands]) (by kernel_rfl) rfl
          simp [go_sem] at h50 h51
          refine does_enter (f := 47) (args := #[.agg #[.int .i64 s', .int .i64 t', .slice bo l'.length cap'], .int .i64 s]) (w' := W) (by simp [go_sem, h50, h51]) ?_
          refine (entriesBehind_any s' t' s k' bo l' cap' hik' (by omega) hl' hcap' W (HB.out.on (below_via B4.out hC))).mono ?_
          rintro e W' ⟨vo, rfl, he, hb'⟩
          exact ⟨_, rfl, ⟨vo, rfl, he⟩, below_via hC hb', hb'⟩
        · intro A W hC hg hb
          have g3 := hg 3 49 (by decide) rfl (by simp [Op.operands, Call.operands]) (by kernel_rfl) rfl
          have g6 := hg 6 52 (by decide) rfl (by simp [Op.operands, Call.operands]) (by kernel_rfl) rfl
          obtain ⟨vo, h49, he⟩ := g3
          obtain ⟨vo', h52, he'⟩ := g6
          simp [go_sem] at h49 h52
          refine does_enter (f := 48) (args := #[.slice vo (l.drop k).length (l.drop k).length, .slice vo' (l'.drop k').length (l'.drop k').length]) (w' := W) (by simp [go_sem, h49, h52]) ?_
          refine (sameBeginning_any vo vo' (l.drop k) (l'.drop k') _ _ (by simp; omega) (by simp; omega) W he he').mono ?_
          rintro e W' ⟨rfl, hb'⟩
          exact ⟨_, rfl, rfl, below_via hC hb', hb'⟩
        · intro A W hC hg hb
          have h46 : A.eval (.tmp 46) = .int .i64 s := hg 0 46 (by decide) rfl (by simp [Op.operands]) (by kernel_rfl) rfl
          have h53 : A.eval (.tmp 53) = .int .i64 (alike (l.drop k) (l'.drop k')) := hg 7 53 (by decide) rfl (by simp [Op.operands]) (by kernel_rfl) rfl
          exact does_value (v := .int .i64 (s + alike (l.drop k) (l'.drop k'))) (w' := W) (by simp only [execOp, h46, h53]; simp [go_sem, hadd]) ⟨rfl, hC, Below.refl _ _⟩
        · intro A W hC hg hb
          have h54 : A.eval (.tmp 54) = .int .i64 (s + alike (l.drop k) (l'.drop k')) := hg 8 54 (by decide) rfl (by simp [Op.operands]) (by kernel_rfl) rfl
          exact does_value (v := .int .i64 (s + alike (l.drop k) (l'.drop k'))) (w' := W) (by simp only [execOp, h54]; simp [go_sem]) ⟨rfl, hC, Below.refl _ _⟩
      · intro vs W' hC hg
        have hok := hg 9 (by decide) (fun k => rfl)
        change vs 9 = _ at hok
        clear hg
        have BL := hid (below_via B4.out hC)
        change Exit.then _ _ _ (laidBy _ vs _ 10 _) W'
        simp only [laidBy, if_true, dstAt, List.getElem?_toArray, List.getElem?_cons_succ, List.getElem?_cons_zero, Option.bind_some]
        simp only [Act.put, List.setIfInBounds_toArray, List.set_cons_succ, List.set_cons_zero]
        rw [hok]
        clear hok hC
        go_wp2
        go_ret
        exact ⟨by rw [hr.out]; rfl, BL.out⟩
    · have hr := hid (hNO.out (by rw [ht1, ht2]; exact fun q => h12 q.2.2))
      clear hNO hYES ht1 ht2 hh1 hh2
      go_wp2
      go_ret
      exact ⟨by rw [hr.out]; rfl, B4.out⟩
end Go.Proofs.Ytjkgjnpifdafaaa
