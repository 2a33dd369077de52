/-
  For every two logs, laws.FnExactShared returns true: impl.Shared and spec.Shared answer alike; nothing that was in memory is written.
-/
import Derived.Test.YtjkgjnpifdafaaaRows
import Derived.Test.YtjkgjnpifdafaaaOpenLog
import Derived.Test.YtjkgjnpifdafaaaOwnEnt
import Derived.Test.YtjkgjnpifdafaaaSharedS
import Derived.Test.YtjkgjnpifdafaaaSharedI
import Derived.WalkSmall
import Derived.WalkKit
import Derived.ProofKit
import Derived.OpenShut
import Derived.OpenVars
import Derived.Deep.DeepHandedRow
import Derived.Lib.LaidTab
import Derived.Stop.LaidErr
namespace Go.Proofs.Ytjkgjnpifdafaaa.fnExactShared
open Go.ChangeShapes Go.WideShapes Go.ChangeAt Go.ChangeMaps Go.RowKit

set_option maxRecDepth 1000000 in
set_option maxHeartbeats 8000000 in
theorem walk (s t : Int) (hs : -9223372036854775808 ≤ s ∧ s ≤ 9223372036854775807) (_ht : -9223372036854775808 ≤ t ∧ t ≤ 9223372036854775807) (ao : Option Addr) (l : List EntD) (cap : Nat) (hl : l.length ≤ maxLen) (hf : EntsFit l) (s' t' : Int) (hs' : -9223372036854775808 ≤ s' ∧ s' ≤ 9223372036854775807) (_ht' : -9223372036854775808 ≤ t' ∧ t' ≤ 9223372036854775807) (bo : Option Addr) (l' : List EntD) (cap' : Nat) (hl' : l'.length ≤ maxLen) (hf' : EntsFit l') (w : World) (ha : EntsAt w ao l) (hb : EntsAt w bo l') :
    Calls Try.prog 5 #[.agg #[.int .i64 s, .int .i64 t, .slice ao l.length cap], .agg #[.int .i64 s', .int .i64 t', .slice bo l'.length cap']] w fun e w' => e = .returned (.bool true) ∧ Below w.heap.size w w' := by
  have HA := hid ha
  have HB := hid hb
  clear ha hb
  have hx0 : BlockIs (w.alloc (.cells #[.int .i64 s, .int .i64 t, .slice ao l.length cap] 24)) w.heap.size 24 [.int .i64 s, .int .i64 t, .slice ao l.length cap] := heap_alloc_new w _
  have X_p := hid (hx0.on (below_more (Below.refl _ _) (.cells #[.int .i64 s', .int .i64 t', .slice bo l'.length cap'] 24)) hx0.lt)
  have hx1 : BlockIs ((w.alloc (.cells #[.int .i64 s, .int .i64 t, .slice ao l.length cap] 24)).alloc (.cells #[.int .i64 s', .int .i64 t', .slice bo l'.length cap'] 24)) (w.heap.size + 1) 24 [.int .i64 s', .int .i64 t', .slice bo l'.length cap'] := by
    have := heap_alloc_new (w.alloc (.cells #[.int .i64 s, .int .i64 t, .slice ao l.length cap] 24)) (.cells #[.int .i64 s', .int .i64 t', .slice bo l'.length cap'] 24)
    rw [show (w.alloc (.cells #[.int .i64 s, .int .i64 t, .slice ao l.length cap] 24)).heap.size = w.heap.size + 1 by simp [World.alloc, -World.alloc_eq]] at this
    exact this
  have X_q := hid hx1
  have B := hid (below_more (below_more (Below.refl w.heap.size w) (.cells #[.int .i64 s, .int .i64 t, .slice ao l.length cap] 24)) (.cells #[.int .i64 s', .int .i64 t', .slice bo l'.length cap'] 24))
  have O0 := hid hx1.lt
  clear hx0 hx1
  go_enter Try.func5, Try.ntmps5
  go_wp2_with fail
  refine Calls.mono (szLog_any s t ao l cap 1048576 (by omega) (by omega) (by unfold maxLen at hl; omega) hf _ (HA.out.on B.out)) ?_
  rintro e w1 ⟨hor, b1⟩
  have O1 := hid b1.size
  have X_p_1 := hid (X_p.out.on b1 X_p.out.lt)
  have X_q_1 := hid (X_q.out.on b1 X_q.out.lt)
  have B_1 := hid (below_via B.out b1)
  clear b1 X_p X_q B
  have cX_p0_1 := X_p_1.out.cell (j := 0) rfl
  have cX_p1_1 := X_p_1.out.cell (j := 1) rfl
  have cX_p2_1 := X_p_1.out.cell (j := 2) rfl
  have cX_q0_1 := X_q_1.out.cell (j := 0) rfl
  have cX_q1_1 := X_q_1.out.cell (j := 1) rfl
  have cX_q2_1 := X_q_1.out.cell (j := 2) rfl
  rcases hor with ⟨hneg, rfl⟩ | ⟨hnn, rfl⟩
  · go_wp2
    go_ret
    exact ⟨rfl, B_1.out⟩
  have hl2 := (entsSmall hnn).1
  have HSM := hid (entsSmall hnn).2
  have hbn := entBulk_nonneg l
  go_wp2_with fail
  refine Calls.mono (szLog_any s' t' bo l' cap' (1048576 - l.length - entBulk l) hnn (by omega) (by unfold maxLen at hl'; omega) hf' _ (HB.out.on B_1.out)) ?_
  rintro e w2 ⟨hor, b2⟩
  have O2 := hid b2.size
  have X_p_2 := hid (X_p_1.out.on b2 X_p_1.out.lt)
  have X_q_2 := hid (X_q_1.out.on b2 X_q_1.out.lt)
  have B_2 := hid (below_via B_1.out b2)
  clear b2 X_p_1 X_q_1 B_1 cX_p0_1 cX_p1_1 cX_p2_1 cX_q0_1 cX_q1_1 cX_q2_1
  have cX_p0_2 := X_p_2.out.cell (j := 0) rfl
  have cX_p1_2 := X_p_2.out.cell (j := 1) rfl
  have cX_p2_2 := X_p_2.out.cell (j := 2) rfl
  have cX_q0_2 := X_q_2.out.cell (j := 0) rfl
  have cX_q1_2 := X_q_2.out.cell (j := 1) rfl
  have cX_q2_2 := X_q_2.out.cell (j := 2) rfl
  rcases hor with ⟨hneg, rfl⟩ | ⟨hnn2, rfl⟩
  · go_wp2
    go_ret
    exact ⟨rfl, B_2.out⟩
  have hl2' : l'.length ≤ 1048576 := by have := entBulk_nonneg l'; omega
  have HSM' := hid (entsSmall (l := l') (by omega)).2
  clear hf hf' hl hl'
  obtain ⟨AN, hAN⟩ : ∃ x, sharedAns s t l s' t' l' = x := ⟨_, rfl⟩
  go_wp2
  refine wp_region_each (N := 45) (by kernel_rfl) (by kernel_rfl) rfl (by kernel_rfl) (fun W => Below w2.heap.size w2 W) (fun j v _ W => match j with | 0 => v = .agg #[.int .i64 s, .int .i64 t, .slice ao l.length cap] | 1 => ∃ va vc, v = .agg #[.int .i64 s, .int .i64 t, .slice va l.length vc] ∧ l.length ≤ vc ∧ EntsAt W va l | 2 => v = .agg #[.int .i64 s', .int .i64 t', .slice bo l'.length cap'] | 3 => ∃ va vc, v = .agg #[.int .i64 s', .int .i64 t', .slice va l'.length vc] ∧ l'.length ≤ vc ∧ EntsAt W va l' | 4 => v = .int .i64 AN | 5 => v = .int .i64 AN | _ => True) (fun i => i) (fun _ _ => false) (fun _ x y => Below x.heap.size x y) (fun _ => 0) (by kernel_rfl) (fun _ _ => rfl) ?_ (below_drewN (Below.refl _ _) 1) ?_ ?_
  · intro i j v u x y hij hdd hwt hxy hg
    match j, hg with
    | 0, hg => exact hg
    | 1, hg =>
      obtain ⟨va, vc, e1, e2, e3⟩ := hg
      exact ⟨va, vc, e1, e2, e3.on hxy⟩
    | 2, hg => exact hg
    | 3, hg =>
      obtain ⟨va, vc, e1, e2, e3⟩ := hg
      exact ⟨va, vc, e1, e2, e3.on hxy⟩
    | 4, hg => exact hg
    | 5, hg => exact hg
    | n + 6, _ => exact trivial
  · refine ⟨?_, ?_, ?_, ?_, ?_, ?_, trivial⟩
    · intro A W hC hg hb
      have h2 : A.eval (.tmp 2) = .pointer (some ⟨w.heap.size, 0, none⟩) := hb 2 (base_of (by kernel_rfl))
      have hc0 := (X_p_2.out.on hC X_p_2.out.lt).cell (j := 0) rfl
      have hc1 := (X_p_2.out.on hC X_p_2.out.lt).cell (j := 1) rfl
      have hc2 := (X_p_2.out.on hC X_p_2.out.lt).cell (j := 2) rfl
      exact does_value (v := .agg #[.int .i64 s, .int .i64 t, .slice ao l.length cap]) (w' := W) (by simp only [execOp, h2]; simp [go_sem, hc0, hc1, hc2]) ⟨rfl, hC, Below.refl _ _⟩
    · intro A W hC hg hb
      have h20 : A.eval (.tmp 20) = .agg #[.int .i64 s, .int .i64 t, .slice ao l.length cap] := hg 0 20 (by decide) rfl (by simp [Op.operands, Call.operands]) (by kernel_rfl) rfl
      simp [go_sem] at h20
      refine does_enter (f := 12) (args := #[.agg #[.int .i64 s, .int .i64 t, .slice ao l.length cap]]) (w' := W) (by simp [go_sem, h20]) ?_
      refine (toLog_o s t ao l cap hl2 W (HA.out.on (below_via B_2.out hC))).mono ?_
      rintro e W' ⟨va, vc, rfl, hvc, ho, hb'⟩
      exact ⟨_, rfl, ⟨va, vc, rfl, hvc, ho.ents⟩, below_via hC hb', hb'⟩
    · intro A W hC hg hb
      have h3 : A.eval (.tmp 3) = .pointer (some ⟨w.heap.size + 1, 0, none⟩) := hb 3 (base_of (by kernel_rfl))
      have hc0 := (X_q_2.out.on hC X_q_2.out.lt).cell (j := 0) rfl
      have hc1 := (X_q_2.out.on hC X_q_2.out.lt).cell (j := 1) rfl
      have hc2 := (X_q_2.out.on hC X_q_2.out.lt).cell (j := 2) rfl
      exact does_value (v := .agg #[.int .i64 s', .int .i64 t', .slice bo l'.length cap']) (w' := W) (by simp only [execOp, h3]; simp [go_sem, hc0, hc1, hc2]) ⟨rfl, hC, Below.refl _ _⟩
    · intro A W hC hg hb
      have h22 : A.eval (.tmp 22) = .agg #[.int .i64 s', .int .i64 t', .slice bo l'.length cap'] := hg 2 22 (by decide) rfl (by simp [Op.operands, Call.operands]) (by kernel_rfl) rfl
      simp [go_sem] at h22
      refine does_enter (f := 12) (args := #[.agg #[.int .i64 s', .int .i64 t', .slice bo l'.length cap']]) (w' := W) (by simp [go_sem, h22]) ?_
      refine (toLog_o s' t' bo l' cap' hl2' W (HB.out.on (below_via B_2.out hC))).mono ?_
      rintro e W' ⟨va, vc, rfl, hvc, ho, hb'⟩
      exact ⟨_, rfl, ⟨va, vc, rfl, hvc, ho.ents⟩, below_via hC hb', hb'⟩
    · intro A W hC hg hb
      have g1 := hg 1 21 (by decide) rfl (by simp [Op.operands, Call.operands]) (by kernel_rfl) rfl
      have g3 := hg 3 23 (by decide) rfl (by simp [Op.operands, Call.operands]) (by kernel_rfl) rfl
      obtain ⟨va, vc, h21, _, ha⟩ := g1
      obtain ⟨vb, vd, h23, _, hb9⟩ := g3
      simp [go_sem] at h21 h23
      refine does_enter (f := 20) (args := #[.agg #[.int .i64 s, .int .i64 t, .slice va l.length vc], .agg #[.int .i64 s', .int .i64 t', .slice vb l'.length vd]]) (w' := W) (by simp [go_sem, h21, h23]) ?_
      refine (specShared_any s t va l vc s' t' vb l' vd hl2 hl2' HSM.out HSM'.out W ha hb9).mono ?_
      rintro e W' ⟨rfl, hb'⟩
      rw [hAN]
      exact ⟨_, rfl, rfl, below_via hC hb', hb'⟩
    · intro A W hC hg hb
      have h24 : A.eval (.tmp 24) = .int .i64 AN := hg 4 24 (by decide) rfl (by simp [Op.operands]) (by kernel_rfl) rfl
      exact does_value (v := .int .i64 AN) (w' := W) (by simp only [execOp, h24]; simp [go_sem]) ⟨rfl, hC, Below.refl _ _⟩
  intro vs w3 hC hg
  have hok5 := hg 5 (by decide) (fun k => rfl)
  change vs 5 = _ at hok5
  clear hg
  change Exit.then _ _ _ (laidBy _ vs _ 6 _) w3
  simp only [laidBy, if_true, dstAt, List.getElem?_toArray, List.getElem?_cons_succ, List.getElem?_cons_zero, Option.bind_some]
  simp only [Act.put, List.setIfInBounds_toArray, List.set_cons_succ, List.set_cons_zero]
  rw [hok5]
  clear hok5
  have O3 := hid hC.size
  have X_p_3 := hid (X_p_2.out.on hC X_p_2.out.lt)
  have X_q_3 := hid (X_q_2.out.on hC X_q_2.out.lt)
  have B_3 := hid (below_via B_2.out hC)
  clear hC X_p_2 X_q_2 B_2 cX_p0_2 cX_p1_2 cX_p2_2 cX_q0_2 cX_q1_2 cX_q2_2
  have cX_p0_3 := X_p_3.out.cell (j := 0) rfl
  have cX_p1_3 := X_p_3.out.cell (j := 1) rfl
  have cX_p2_3 := X_p_3.out.cell (j := 2) rfl
  have cX_q0_3 := X_q_3.out.cell (j := 0) rfl
  have cX_q1_3 := X_q_3.out.cell (j := 1) rfl
  have cX_q2_3 := X_q_3.out.cell (j := 2) rfl
  go_wp2_with fail
  refine Calls.mono (toLog_o s t ao l cap hl2 _ (HA.out.on B_3.out)) ?_
  rintro e w4 ⟨v4, c4, rfl, hc4, h4, b4⟩
  have O4 := hid b4.size
  have Y4 := hid h4
  clear h4
  have X_p_4 := hid (X_p_3.out.on b4 X_p_3.out.lt)
  have X_q_4 := hid (X_q_3.out.on b4 X_q_3.out.lt)
  have B_4 := hid (below_via B_3.out b4)
  clear b4 X_p_3 X_q_3 B_3 cX_p0_3 cX_p1_3 cX_p2_3 cX_q0_3 cX_q1_3 cX_q2_3
  have cX_p0_4 := X_p_4.out.cell (j := 0) rfl
  have cX_p1_4 := X_p_4.out.cell (j := 1) rfl
  have cX_p2_4 := X_p_4.out.cell (j := 2) rfl
  have cX_q0_4 := X_q_4.out.cell (j := 0) rfl
  have cX_q1_4 := X_q_4.out.cell (j := 1) rfl
  have cX_q2_4 := X_q_4.out.cell (j := 2) rfl
  have ba := below_more (Below.refl w4.heap.size w4) (.cells #[.int .i64 s, .int .i64 t, .slice v4 l.length c4] 31)
  have hx : BlockIs (w4.alloc (.cells #[.int .i64 s, .int .i64 t, .slice v4 l.length c4] 31)) w4.heap.size 31 [.int .i64 s, .int .i64 t, .slice v4 l.length c4] := heap_alloc_new w4 _
  have X_p_4a := hid (X_p_4.out.on ba X_p_4.out.lt)
  have X_q_4a := hid (X_q_4.out.on ba X_q_4.out.lt)
  have B_4a := hid (below_via B_4.out ba)
  have Y4_4a := hid (Y4.out.on ba)
  have X_x_4a := hid hx
  have O4a := hid hx.lt
  clear ba hx X_p_4 X_q_4 B_4 Y4
  have cX_p0_4a := X_p_4a.out.cell (j := 0) rfl
  have cX_p1_4a := X_p_4a.out.cell (j := 1) rfl
  have cX_p2_4a := X_p_4a.out.cell (j := 2) rfl
  have cX_q0_4a := X_q_4a.out.cell (j := 0) rfl
  have cX_q1_4a := X_q_4a.out.cell (j := 1) rfl
  have cX_q2_4a := X_q_4a.out.cell (j := 2) rfl
  have cX_x0_4a := X_x_4a.out.cell (j := 0) rfl
  have cX_x1_4a := X_x_4a.out.cell (j := 1) rfl
  have cX_x2_4a := X_x_4a.out.cell (j := 2) rfl
  go_wp2_with fail
  refine Calls.mono (toLog_o s' t' bo l' cap' hl2' _ (HB.out.on B_4a.out)) ?_
  rintro e w5 ⟨v5, c5, rfl, hc5, h5, b5⟩
  have O5 := hid b5.size
  have Y5 := hid h5
  clear h5
  have X_p_5 := hid (X_p_4a.out.on b5 X_p_4a.out.lt)
  have X_q_5 := hid (X_q_4a.out.on b5 X_q_4a.out.lt)
  have B_5 := hid (below_via B_4a.out b5)
  have Y4_5 := hid (Y4_4a.out.on b5)
  have X_x_5 := hid (X_x_4a.out.on b5 X_x_4a.out.lt)
  clear b5 X_p_4a X_q_4a B_4a Y4_4a X_x_4a cX_p0_4a cX_p1_4a cX_p2_4a cX_q0_4a cX_q1_4a cX_q2_4a cX_x0_4a cX_x1_4a cX_x2_4a cX_p0_4 cX_p1_4 cX_p2_4 cX_q0_4 cX_q1_4 cX_q2_4
  have cX_p0_5 := X_p_5.out.cell (j := 0) rfl
  have cX_p1_5 := X_p_5.out.cell (j := 1) rfl
  have cX_p2_5 := X_p_5.out.cell (j := 2) rfl
  have cX_q0_5 := X_q_5.out.cell (j := 0) rfl
  have cX_q1_5 := X_q_5.out.cell (j := 1) rfl
  have cX_q2_5 := X_q_5.out.cell (j := 2) rfl
  have cX_x0_5 := X_x_5.out.cell (j := 0) rfl
  have cX_x1_5 := X_x_5.out.cell (j := 1) rfl
  have cX_x2_5 := X_x_5.out.cell (j := 2) rfl
  have ba := below_more (Below.refl w5.heap.size w5) (.cells #[.int .i64 s', .int .i64 t', .slice v5 l'.length c5] 31)
  have hx : BlockIs (w5.alloc (.cells #[.int .i64 s', .int .i64 t', .slice v5 l'.length c5] 31)) w5.heap.size 31 [.int .i64 s', .int .i64 t', .slice v5 l'.length c5] := heap_alloc_new w5 _
  have X_p_5a := hid (X_p_5.out.on ba X_p_5.out.lt)
  have X_q_5a := hid (X_q_5.out.on ba X_q_5.out.lt)
  have B_5a := hid (below_via B_5.out ba)
  have Y4_5a := hid (Y4_5.out.on ba)
  have X_x_5a := hid (X_x_5.out.on ba X_x_5.out.lt)
  have Y5_5a := hid (Y5.out.on ba)
  have X_y_5a := hid hx
  have O5a := hid hx.lt
  clear ba hx X_p_5 X_q_5 B_5 Y4_5 X_x_5 Y5
  have cX_p0_5a := X_p_5a.out.cell (j := 0) rfl
  have cX_p1_5a := X_p_5a.out.cell (j := 1) rfl
  have cX_p2_5a := X_p_5a.out.cell (j := 2) rfl
  have cX_q0_5a := X_q_5a.out.cell (j := 0) rfl
  have cX_q1_5a := X_q_5a.out.cell (j := 1) rfl
  have cX_q2_5a := X_q_5a.out.cell (j := 2) rfl
  have cX_x0_5a := X_x_5a.out.cell (j := 0) rfl
  have cX_x1_5a := X_x_5a.out.cell (j := 1) rfl
  have cX_x2_5a := X_x_5a.out.cell (j := 2) rfl
  have cX_y0_5a := X_y_5a.out.cell (j := 0) rfl
  have cX_y1_5a := X_y_5a.out.cell (j := 1) rfl
  have cX_y2_5a := X_y_5a.out.cell (j := 2) rfl
  have CQ := hid (implShared_any s t _ l c4 s' t' _ l' c5 hs hs' hl2 hl2' hc4 hc5 _ Y4_5a.out.ents Y5_5a.out.ents)
  rw [hAN] at CQ
  go_wp2_with fail
  refine Calls.mono (CQ.out) ?_
  rintro e w6 ⟨rfl, b6⟩
  have O6 := hid b6.size
  have X_p_6 := hid (X_p_5a.out.on b6 X_p_5a.out.lt)
  have X_q_6 := hid (X_q_5a.out.on b6 X_q_5a.out.lt)
  have B_6 := hid (below_via B_5a.out b6)
  have Y4_6 := hid (Y4_5a.out.on b6)
  have X_x_6 := hid (X_x_5a.out.on b6 X_x_5a.out.lt)
  have Y5_6 := hid (Y5_5a.out.on b6)
  have X_y_6 := hid (X_y_5a.out.on b6 X_y_5a.out.lt)
  clear b6 X_p_5a X_q_5a B_5a Y4_5a X_x_5a Y5_5a X_y_5a cX_p0_5a cX_p1_5a cX_p2_5a cX_q0_5a cX_q1_5a cX_q2_5a cX_x0_5a cX_x1_5a cX_x2_5a cX_y0_5a cX_y1_5a cX_y2_5a cX_p0_5 cX_p1_5 cX_p2_5 cX_q0_5 cX_q1_5 cX_q2_5 cX_x0_5 cX_x1_5 cX_x2_5
  have cX_p0_6 := X_p_6.out.cell (j := 0) rfl
  have cX_p1_6 := X_p_6.out.cell (j := 1) rfl
  have cX_p2_6 := X_p_6.out.cell (j := 2) rfl
  have cX_q0_6 := X_q_6.out.cell (j := 0) rfl
  have cX_q1_6 := X_q_6.out.cell (j := 1) rfl
  have cX_q2_6 := X_q_6.out.cell (j := 2) rfl
  have cX_x0_6 := X_x_6.out.cell (j := 0) rfl
  have cX_x1_6 := X_x_6.out.cell (j := 1) rfl
  have cX_x2_6 := X_x_6.out.cell (j := 2) rfl
  have cX_y0_6 := X_y_6.out.cell (j := 0) rfl
  have cX_y1_6 := X_y_6.out.cell (j := 1) rfl
  have cX_y2_6 := X_y_6.out.cell (j := 2) rfl
  clear CQ
  go_wp2
  go_wp2
  refine wp_region_each (N := 45) (by kernel_rfl) (by kernel_rfl) rfl (by kernel_rfl) (fun W => Below w6.heap.size w6 W) (fun j v _ W => match j with | 0 => v = .agg #[.int .i64 s, .int .i64 t, .slice v4 l.length c4] | 1 => v = .agg #[.int .i64 s, .int .i64 t, .slice ao l.length cap] | 2 => ∃ va vc, v = .agg #[.int .i64 s, .int .i64 t, .slice va l.length vc] ∧ l.length ≤ vc ∧ EntsAt W va l | 3 => v = .bool true | 4 => v = .bool false | _ => True) (fun i => i) (fun _ _ => false) (fun _ x y => Below x.heap.size x y) (fun _ => 0) (by kernel_rfl) (fun _ _ => rfl) ?_ (below_drewN (Below.refl _ _) 1) ?_ ?_
  · intro i j v u x y hij hdd hwt hxy hg
    match j, hg with
    | 0, hg => exact hg
    | 1, hg => exact hg
    | 2, hg =>
      obtain ⟨va, vc, e1, e2, e3⟩ := hg
      exact ⟨va, vc, e1, e2, e3.on hxy⟩
    | 3, hg => exact hg
    | 4, hg => exact hg
    | n + 5, _ => exact trivial
  · refine ⟨?_, ?_, ?_, ?_, ?_, trivial⟩
    · intro A W hC hg hb
      have h7 : A.eval (.tmp 7) = .pointer (some ⟨w4.heap.size, 0, none⟩) := hb 7 (base_of (by kernel_rfl))
      have hc0 := (X_x_6.out.on hC X_x_6.out.lt).cell (j := 0) rfl
      have hc1 := (X_x_6.out.on hC X_x_6.out.lt).cell (j := 1) rfl
      have hc2 := (X_x_6.out.on hC X_x_6.out.lt).cell (j := 2) rfl
      exact does_value (v := .agg #[.int .i64 s, .int .i64 t, .slice v4 l.length c4]) (w' := W) (by simp only [execOp, h7]; simp [go_sem, hc0, hc1, hc2]) ⟨rfl, hC, Below.refl _ _⟩
    · intro A W hC hg hb
      have h2 : A.eval (.tmp 2) = .pointer (some ⟨w.heap.size, 0, none⟩) := hb 2 (base_of (by kernel_rfl))
      have hc0 := (X_p_6.out.on hC X_p_6.out.lt).cell (j := 0) rfl
      have hc1 := (X_p_6.out.on hC X_p_6.out.lt).cell (j := 1) rfl
      have hc2 := (X_p_6.out.on hC X_p_6.out.lt).cell (j := 2) rfl
      exact does_value (v := .agg #[.int .i64 s, .int .i64 t, .slice ao l.length cap]) (w' := W) (by simp only [execOp, h2]; simp [go_sem, hc0, hc1, hc2]) ⟨rfl, hC, Below.refl _ _⟩
    · intro A W hC hg hb
      have h36 : A.eval (.tmp 36) = .agg #[.int .i64 s, .int .i64 t, .slice ao l.length cap] := hg 1 36 (by decide) rfl (by simp [Op.operands, Call.operands]) (by kernel_rfl) rfl
      simp [go_sem] at h36
      refine does_enter (f := 12) (args := #[.agg #[.int .i64 s, .int .i64 t, .slice ao l.length cap]]) (w' := W) (by simp [go_sem, h36]) ?_
      refine (toLog_o s t ao l cap hl2 W (HA.out.on (below_via B_6.out hC))).mono ?_
      rintro e W' ⟨va, vc, rfl, hvc, ho, hb'⟩
      exact ⟨_, rfl, ⟨va, vc, rfl, hvc, ho.ents⟩, below_via hC hb', hb'⟩
    · intro A W hC hg hb
      have h35 : A.eval (.tmp 35) = .agg #[.int .i64 s, .int .i64 t, .slice v4 l.length c4] := hg 0 35 (by decide) rfl (by simp [Op.operands, Call.operands]) (by kernel_rfl) rfl
      have g2 := hg 2 37 (by decide) rfl (by simp [Op.operands, Call.operands]) (by kernel_rfl) rfl
      obtain ⟨va, vc, h37, _, ho⟩ := g2
      simp [go_sem] at h35 h37
      refine does_enter (f := 15) (args := #[.agg #[.int .i64 s, .int .i64 t, .slice v4 l.length c4], .agg #[.int .i64 s, .int .i64 t, .slice va l.length vc]]) (w' := W) (by simp [go_sem, h35, h37]) ?_
      refine (eqLog_o s t _ _ l _ _ (by omega) W ((Y4_6.out.on hC).ents) ho).mono ?_
      rintro e W' ⟨rfl, hb'⟩
      exact ⟨_, rfl, rfl, below_via hC hb', hb'⟩
    · intro A W hC hg hb
      have h38 : A.eval (.tmp 38) = .bool true := hg 3 38 (by decide) rfl (by simp [Op.operands]) (by kernel_rfl) rfl
      exact does_value (v := .bool false) (w' := W) (by simp only [execOp, h38]; simp [go_sem]) ⟨rfl, hC, Below.refl _ _⟩
  intro vs w7 hC hg
  have hok4 := hg 4 (by decide) (fun k => rfl)
  change vs 4 = _ at hok4
  clear hg
  change Exit.then _ _ _ (laidBy _ vs _ 5 _) w7
  simp only [laidBy, if_true, dstAt, List.getElem?_toArray, List.getElem?_cons_succ, List.getElem?_cons_zero, Option.bind_some]
  simp only [Act.put, List.setIfInBounds_toArray, List.set_cons_succ, List.set_cons_zero]
  rw [hok4]
  clear hok4
  have O7 := hid hC.size
  have X_p_7 := hid (X_p_6.out.on hC X_p_6.out.lt)
  have X_q_7 := hid (X_q_6.out.on hC X_q_6.out.lt)
  have B_7 := hid (below_via B_6.out hC)
  have Y4_7 := hid (Y4_6.out.on hC)
  have X_x_7 := hid (X_x_6.out.on hC X_x_6.out.lt)
  have Y5_7 := hid (Y5_6.out.on hC)
  have X_y_7 := hid (X_y_6.out.on hC X_y_6.out.lt)
  clear hC X_p_6 X_q_6 B_6 Y4_6 X_x_6 Y5_6 X_y_6 cX_p0_6 cX_p1_6 cX_p2_6 cX_q0_6 cX_q1_6 cX_q2_6 cX_x0_6 cX_x1_6 cX_x2_6 cX_y0_6 cX_y1_6 cX_y2_6
  have cX_p0_7 := X_p_7.out.cell (j := 0) rfl
  have cX_p1_7 := X_p_7.out.cell (j := 1) rfl
  have cX_p2_7 := X_p_7.out.cell (j := 2) rfl
  have cX_q0_7 := X_q_7.out.cell (j := 0) rfl
  have cX_q1_7 := X_q_7.out.cell (j := 1) rfl
  have cX_q2_7 := X_q_7.out.cell (j := 2) rfl
  have cX_x0_7 := X_x_7.out.cell (j := 0) rfl
  have cX_x1_7 := X_x_7.out.cell (j := 1) rfl
  have cX_x2_7 := X_x_7.out.cell (j := 2) rfl
  have cX_y0_7 := X_y_7.out.cell (j := 0) rfl
  have cX_y1_7 := X_y_7.out.cell (j := 1) rfl
  have cX_y2_7 := X_y_7.out.cell (j := 2) rfl
  go_wp2
  go_wp2
  refine wp_region_each (N := 45) (by kernel_rfl) (by kernel_rfl) rfl (by kernel_rfl) (fun W => Below w7.heap.size w7 W) (fun j v _ W => match j with | 0 => v = .agg #[.int .i64 s', .int .i64 t', .slice v5 l'.length c5] | 1 => v = .agg #[.int .i64 s', .int .i64 t', .slice bo l'.length cap'] | 2 => ∃ va vc, v = .agg #[.int .i64 s', .int .i64 t', .slice va l'.length vc] ∧ l'.length ≤ vc ∧ EntsAt W va l' | 3 => v = .bool true | 4 => v = .bool false | _ => True) (fun i => i) (fun _ _ => false) (fun _ x y => Below x.heap.size x y) (fun _ => 0) (by kernel_rfl) (fun _ _ => rfl) ?_ (below_drewN (Below.refl _ _) 1) ?_ ?_
  · intro i j v u x y hij hdd hwt hxy hg
    match j, hg with
    | 0, hg => exact hg
    | 1, hg => exact hg
    | 2, hg =>
      obtain ⟨va, vc, e1, e2, e3⟩ := hg
      exact ⟨va, vc, e1, e2, e3.on hxy⟩
    | 3, hg => exact hg
    | 4, hg => exact hg
    | n + 5, _ => exact trivial
  · refine ⟨?_, ?_, ?_, ?_, ?_, trivial⟩
    · intro A W hC hg hb
      have h8 : A.eval (.tmp 8) = .pointer (some ⟨w5.heap.size, 0, none⟩) := hb 8 (base_of (by kernel_rfl))
      have hc0 := (X_y_7.out.on hC X_y_7.out.lt).cell (j := 0) rfl
      have hc1 := (X_y_7.out.on hC X_y_7.out.lt).cell (j := 1) rfl
      have hc2 := (X_y_7.out.on hC X_y_7.out.lt).cell (j := 2) rfl
      exact does_value (v := .agg #[.int .i64 s', .int .i64 t', .slice v5 l'.length c5]) (w' := W) (by simp only [execOp, h8]; simp [go_sem, hc0, hc1, hc2]) ⟨rfl, hC, Below.refl _ _⟩
    · intro A W hC hg hb
      have h3 : A.eval (.tmp 3) = .pointer (some ⟨w.heap.size + 1, 0, none⟩) := hb 3 (base_of (by kernel_rfl))
      have hc0 := (X_q_7.out.on hC X_q_7.out.lt).cell (j := 0) rfl
      have hc1 := (X_q_7.out.on hC X_q_7.out.lt).cell (j := 1) rfl
      have hc2 := (X_q_7.out.on hC X_q_7.out.lt).cell (j := 2) rfl
      exact does_value (v := .agg #[.int .i64 s', .int .i64 t', .slice bo l'.length cap']) (w' := W) (by simp only [execOp, h3]; simp [go_sem, hc0, hc1, hc2]) ⟨rfl, hC, Below.refl _ _⟩
    · intro A W hC hg hb
      have h41 : A.eval (.tmp 41) = .agg #[.int .i64 s', .int .i64 t', .slice bo l'.length cap'] := hg 1 41 (by decide) rfl (by simp [Op.operands, Call.operands]) (by kernel_rfl) rfl
      simp [go_sem] at h41
      refine does_enter (f := 12) (args := #[.agg #[.int .i64 s', .int .i64 t', .slice bo l'.length cap']]) (w' := W) (by simp [go_sem, h41]) ?_
      refine (toLog_o s' t' bo l' cap' hl2' W (HB.out.on (below_via B_7.out hC))).mono ?_
      rintro e W' ⟨va, vc, rfl, hvc, ho, hb'⟩
      exact ⟨_, rfl, ⟨va, vc, rfl, hvc, ho.ents⟩, below_via hC hb', hb'⟩
    · intro A W hC hg hb
      have h40 : A.eval (.tmp 40) = .agg #[.int .i64 s', .int .i64 t', .slice v5 l'.length c5] := hg 0 40 (by decide) rfl (by simp [Op.operands, Call.operands]) (by kernel_rfl) rfl
      have g2 := hg 2 42 (by decide) rfl (by simp [Op.operands, Call.operands]) (by kernel_rfl) rfl
      obtain ⟨va, vc, h42, _, ho⟩ := g2
      simp [go_sem] at h40 h42
      refine does_enter (f := 15) (args := #[.agg #[.int .i64 s', .int .i64 t', .slice v5 l'.length c5], .agg #[.int .i64 s', .int .i64 t', .slice va l'.length vc]]) (w' := W) (by simp [go_sem, h40, h42]) ?_
      refine (eqLog_o s' t' _ _ l' _ _ (by omega) W ((Y5_7.out.on hC).ents) ho).mono ?_
      rintro e W' ⟨rfl, hb'⟩
      exact ⟨_, rfl, rfl, below_via hC hb', hb'⟩
    · intro A W hC hg hb
      have h43 : A.eval (.tmp 43) = .bool true := hg 3 43 (by decide) rfl (by simp [Op.operands]) (by kernel_rfl) rfl
      exact does_value (v := .bool false) (w' := W) (by simp only [execOp, h43]; simp [go_sem]) ⟨rfl, hC, Below.refl _ _⟩
  intro vs w8 hC hg
  have hok4 := hg 4 (by decide) (fun k => rfl)
  change vs 4 = _ at hok4
  clear hg
  change Exit.then _ _ _ (laidBy _ vs _ 5 _) w8
  simp only [laidBy, if_true, dstAt, List.getElem?_toArray, List.getElem?_cons_succ, List.getElem?_cons_zero, Option.bind_some]
  simp only [Act.put, List.setIfInBounds_toArray, List.set_cons_succ, List.set_cons_zero]
  rw [hok4]
  clear hok4
  have O8 := hid hC.size
  have X_p_8 := hid (X_p_7.out.on hC X_p_7.out.lt)
  have X_q_8 := hid (X_q_7.out.on hC X_q_7.out.lt)
  have B_8 := hid (below_via B_7.out hC)
  have Y4_8 := hid (Y4_7.out.on hC)
  have X_x_8 := hid (X_x_7.out.on hC X_x_7.out.lt)
  have Y5_8 := hid (Y5_7.out.on hC)
  have X_y_8 := hid (X_y_7.out.on hC X_y_7.out.lt)
  clear hC X_p_7 X_q_7 B_7 Y4_7 X_x_7 Y5_7 X_y_7 cX_p0_7 cX_p1_7 cX_p2_7 cX_q0_7 cX_q1_7 cX_q2_7 cX_x0_7 cX_x1_7 cX_x2_7 cX_y0_7 cX_y1_7 cX_y2_7
  have cX_p0_8 := X_p_8.out.cell (j := 0) rfl
  have cX_p1_8 := X_p_8.out.cell (j := 1) rfl
  have cX_p2_8 := X_p_8.out.cell (j := 2) rfl
  have cX_q0_8 := X_q_8.out.cell (j := 0) rfl
  have cX_q1_8 := X_q_8.out.cell (j := 1) rfl
  have cX_q2_8 := X_q_8.out.cell (j := 2) rfl
  have cX_x0_8 := X_x_8.out.cell (j := 0) rfl
  have cX_x1_8 := X_x_8.out.cell (j := 1) rfl
  have cX_x2_8 := X_x_8.out.cell (j := 2) rfl
  have cX_y0_8 := X_y_8.out.cell (j := 0) rfl
  have cX_y1_8 := X_y_8.out.cell (j := 1) rfl
  have cX_y2_8 := X_y_8.out.cell (j := 2) rfl
  go_wp2
  go_ret
  exact ⟨rfl, B_8.out⟩

theorem own : ownKnob Try.prog.godebug = none := by kernel_rfl
theorem laidOut : laidOutB Try.prog = true := by kernel_rfl
theorem rowed : varsRowed Try.prog Rows.fnExactSharedSpec.vars = true := by kernel_rfl
set_option maxRecDepth 1000000 in
theorem contract (H : Type) (enc : TypeId × Value → H) (W : World) (base : Nat) (args : Array Value) (ds gs : List (DataW H)) (before : List MemPlace)
    (hval : ∀ (j : Nat) t v, Try.f5.params[j]? = some t → args[j]? = some v → Value.okWide Try.prog W .any base t v)
    (hW : DataW.Whole enc Try.prog Try.f5.params.toList Rows.fnExactSharedSpec.vars false W args.toList ds gs before) (_hL : laidMetH Try.prog Rows.fnExactSharedRow.laid W) :
    Calls Try.prog 5 args W fun e W' => ∃ v, e = .returned v ∧ Rows.fnExactSharedSpec.post enc Try.prog Try.f5 false true false false W args v W' := by
  have hW' := hW
  obtain ⟨p, q, hA0, hV0, rfl, hfz, hnd⟩ := hW
  have hV : DataW.TrodVars enc Try.prog W (fun _ => true) Rows.fnExactSharedSpec.vars gs q := hV0
  have hA : DataW.TrodAll enc Try.prog W 0 (fun _ => true) true Try.f5.params.toList args.toList ds p := hA0
  rw [Try.params5] at hA hval
  obtain ⟨v0, vs0, d0, ds0, p0, q0, hargs0, rfl, rfl, h0, r0⟩ := trodAll_cons hA
  obtain ⟨v1, vs1, d1, ds1, p1, q1, hargs1, rfl, rfl, h1, r1⟩ := trodAll_cons r0
  subst hargs1
  obtain ⟨rfl, rfl, rfl⟩ := trodAll_nil r1
  obtain rfl : args = #[v0, v1] := by cases args; simp_all
  have k0 := h0
  have lt0 : ∀ x ∈ p0, x.block < W.heap.size := by obtain ⟨m, hm⟩ := k0; exact DataW.trod_lt m _ _ _ hm
  obtain ⟨s0, t0, a0, l0, cap0, rfl, hs0, ht0, hc0, hm0, hat0, hfit0⟩ := open_log (hval 0 24 v0 rfl rfl) h0
  have k1 := h1
  have lt1 : ∀ x ∈ p1, x.block < W.heap.size := by obtain ⟨m, hm⟩ := k1; exact DataW.trod_lt m _ _ _ hm
  obtain ⟨s1, t1, a1, l1, cap1, rfl, hs1, ht1, hc1, hm1, hat1, hfit1⟩ := open_log (hval 1 24 v1 rfl rfl) h1
  clear hA0 hV0
  obtain ⟨rfl, rfl⟩ := trodVars_none hV
  refine (walk s0 t0 hs0 ht0 a0 l0 cap0 (Nat.le_trans hc0 hm0) hfit0 s1 t1 hs1 ht1 a1 l1 cap1 (Nat.le_trans hc1 hm1) hfit1 W hat0 hat1).mono fun e W' ⟨he, bel⟩ => ?_
  subst he
  exact ⟨_, rfl, _, _, _, [], _, [], hW', trodAll_mk1 (shut_bool Try.underlying4 _), trodAll_cons_mk (Below.trod laidOut (by kernel_rfl) (of_decide_eq_true (by kernel_rfl)) k0 bel lt0) (trodAll_cons_mk (Below.trod laidOut (by kernel_rfl) (of_decide_eq_true (by kernel_rfl)) k1 bel lt1) (trodAll_mk0)), rfl, bel.frame _, fun h => by cases h⟩

def put (cs : Array Value) : Obj → Obj
  | .cells _ t frozen => .cells cs t frozen
  | o => o

/-- a world for the witness: the tables hold what their initialisers lay -/
def laidWorld (w : World) : World := { w with heap := w.heap }
theorem laid_met (os : Os) : laidMet Try.prog Rows.fnExactSharedRow.laid ((laidWorld (World.holding Try.prog os ⟨#[], #[], []⟩)).forCall (fun _ _ => 0) ⟨#[], #[.agg #[.int .i64 0, .int .i64 0, .slice none 0 0], .agg #[.int .i64 0, .int .i64 0, .slice none 0 0]], []⟩).memory :=
  laidMet_of_run' 8 (by kernel_rfl) (by kernel_rfl)
theorem reads (os : Os) {H : Type} (enc : TypeId × Value → H) : ∃ places, DataW.whole enc Try.prog ((laidWorld (World.holding Try.prog os ⟨#[], #[], []⟩)).forCall (fun _ _ => 0) ⟨#[], #[.agg #[.int .i64 0, .int .i64 0, .slice none 0 0], .agg #[.int .i64 0, .int .i64 0, .slice none 0 0]], []⟩).memory Try.f5.params.toList Rows.fnExactSharedSpec.vars false #[Value.agg #[.int .i64 0, .int .i64 0, .slice none 0 0], .agg #[.int .i64 0, .int .i64 0, .slice none 0 0]].toList 8 = some ([.agg [.lit (.int .i64 0), .lit (.int .i64 0), .nil], .agg [.lit (.int .i64 0), .lit (.int .i64 0), .nil]], [], places) :=
  ⟨[], by kernel_rfl⟩

set_option maxRecDepth 1000000 in
theorem lifted (os : Os) (started : os.Started) (H : Type) (enc : TypeId × Value → H) (F : Stop.Interp) :
    ReturnsInHanded {} Try.checked os 5 .any ((OpenSpec.ofChange Rows.fnExactSharedSpec).preRow enc Try.prog Try.f5 Rows.fnExactSharedRow.domain false Rows.fnExactSharedRow.laid) (((OpenSpec.ofChange Rows.fnExactSharedSpec).at F).post enc Try.prog Try.f5 false true false false) := by
  obtain ⟨places, hx⟩ := reads os enc
  refine returnsInHanded_of_row (C := Try.checked) (s := OpenSpec.ofChange Rows.fnExactSharedSpec) own started (by kernel_rfl) Try.func5
    (witness_row_at (enc := enc) (C := Try.checked) false (laidWorld (World.holding Try.prog os ⟨#[], #[], []⟩)) #[.agg #[.int .i64 0, .int .i64 0, .slice none 0 0], .agg #[.int .i64 0, .int .i64 0, .slice none 0 0]] rfl (by kernel_rfl) (by kernel_rfl) (by kernel_rfl)
      (OpenSpec.preRow_of_cond 8 hx (by kernel_rfl) (fun k hk => by cases hk) (by kernel_rfl) (laid_met os))) ?_
  intro W base args ds gs before hval hW _ _ _ hL _ _
  exact contract H enc W base args ds gs before hval hW hL

theorem said : Rows.FnExactSharedSaid :=
  OpenClaim.holds_of_cond 5 Try.f5 rfl rfl rfl rfl rfl rfl rfl ⟨rfl, rfl, rfl, rfl, rfl⟩ rfl rfl rfl rfl rfl (by kernel_rfl) Try.func5 (by kernel_rfl)
    (of_decide_eq_true (by kernel_rfl)) (by unfold Func.isWrapper; first | (rw [if_pos (by decide +kernel)]; kernel_rfl) | (rw [if_neg (by decide +kernel)]; exact ⟨rfl, rfl⟩))
    (fun os started H enc _ F => by rw [OpenClaim.pre_eq_preRow]; exact lifted os started H enc F)

end Go.Proofs.Ytjkgjnpifdafaaa.fnExactShared
