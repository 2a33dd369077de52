/-
  For every argument, laws.FnExactLogBehind returns true: impl.LogBehind and spec.LogBehind answer alike, no argument is written, the answer owns its memory; nothing that was in memory is written.
-/
import Derived.Test.YtjkgjnpifdafaaaRows
import Derived.Test.YtjkgjnpifdafaaaOpenLog
import Derived.Test.YtjkgjnpifdafaaaOwnEnt
import Derived.Test.YtjkgjnpifdafaaaLogBehindS
import Derived.Test.YtjkgjnpifdafaaaLogBehindI
import Derived.Test.YtjkgjnpifdafaaaBehindLen
import Derived.Deep.RegionWith
import Derived.WalkSmall
import Derived.WalkKit
import Derived.ProofKit
import Derived.OpenShut
import Derived.OpenVars
import Derived.Deep.DeepHandedRow
import Derived.Lib.LaidTab
import Derived.Stop.LaidErr
namespace Go.Proofs.Ytjkgjnpifdafaaa.fnExactLogBehind
open Go.ChangeShapes Go.WideShapes Go.ChangeAt Go.ChangeMaps Go.RowKit

set_option maxRecDepth 1000000 in
set_option maxHeartbeats 8000000 in
theorem walk (s t : Int) (hs : -9223372036854775808 ≤ s ∧ s ≤ 9223372036854775807) (_ht : -9223372036854775808 ≤ t ∧ t ≤ 9223372036854775807) (ao : Option Addr) (l : List EntD) (cap : Nat) (hl : l.length ≤ maxLen) (hf : EntsFit l) (bb : Int) (hwbb : (Lit.int .i64 bb).wf = true) (tm : Int) (_hwtm : (Lit.int .i64 tm).wf = true) (w : World) (ha : EntsAt w ao l) :
    Calls Try.prog 4 #[.agg #[.int .i64 s, .int .i64 t, .slice ao l.length cap], .int .i64 bb, .int .i64 tm] w fun e w' => e = .returned (.bool true) ∧ Below w.heap.size w w' := by
  have hbb : -9223372036854775808 ≤ bb ∧ bb ≤ 9223372036854775807 := bounds_i64 hwbb
  have HA := hid ha
  have X_p := hid (show BlockIs (w.alloc (.cells #[.int .i64 s, .int .i64 t, .slice ao l.length cap] 24)) w.heap.size 24 [.int .i64 s, .int .i64 t, .slice ao l.length cap] from heap_alloc_new w _)
  have B := hid (below_more (Below.refl w.heap.size w) (.cells #[.int .i64 s, .int .i64 t, .slice ao l.length cap] 24))
  have O0 := hid X_p.out.lt
  clear ha
  go_enter Try.func4, Try.ntmps4
  go_wp2_with fail
  refine Calls.mono (szLog_any s t ao l cap 1048576 (by omega) (by omega) (by unfold maxLen at hl; omega) hf _ (HA.out.on B.out)) ?_
  rintro e w1 ⟨hor, b1⟩
  have O1 := hid b1.size
  have X_p_1 := hid (X_p.out.on b1 X_p.out.lt)
  have B_1 := hid (below_via B.out b1)
  clear b1 X_p B
  have cX_p0_1 := X_p_1.out.cell (j := 0) rfl
  have cX_p1_1 := X_p_1.out.cell (j := 1) rfl
  have cX_p2_1 := X_p_1.out.cell (j := 2) rfl
  rcases hor with ⟨hneg, rfl⟩ | ⟨hnn, rfl⟩
  · go_wp2
    go_ret
    exact ⟨rfl, B_1.out⟩
  have hl2 := (entsSmall hnn).1
  have HSM := hid (entsSmall hnn).2
  clear hf hl
  obtain ⟨A, hF⟩ : ∃ A, behindAns s t l bb tm = A := ⟨_, rfl⟩
  have hA2 : A.length ≤ 1048576 := by rw [← hF]; exact Nat.le_trans (behindAns_len s t l bb tm) hl2
  go_wp2_with fail
  refine Calls.mono (toLog_o s t ao l cap hl2 _ (HA.out.on B_1.out)) ?_
  rintro e w2 ⟨v2, c2, rfl, hc2, h2, b2⟩
  have O2 := hid b2.size
  have Y2 := hid h2
  clear h2
  have X_p_2 := hid (X_p_1.out.on b2 X_p_1.out.lt)
  have B_2 := hid (below_via B_1.out b2)
  clear b2 X_p_1 B_1 cX_p0_1 cX_p1_1 cX_p2_1
  have cX_p0_2 := X_p_2.out.cell (j := 0) rfl
  have cX_p1_2 := X_p_2.out.cell (j := 1) rfl
  have cX_p2_2 := X_p_2.out.cell (j := 2) rfl
  have CQ := hid (specLogBehind_any s t bb tm _ l c2 hl2 HSM.out hc2 _ Y2.out.ents)
  rw [hF] at CQ
  go_wp2_with fail
  refine Calls.mono (CQ.out) ?_
  rintro e w3 ⟨v3, c3, rfl, h3, b3⟩
  have O3 := hid b3.size
  have R_w := hid h3
  clear h3 CQ
  have X_p_3 := hid (X_p_2.out.on b3 X_p_2.out.lt)
  have B_3 := hid (below_via B_2.out b3)
  have Y2_3 := hid (Y2.out.on b3)
  clear b3 X_p_2 B_2 Y2 cX_p0_2 cX_p1_2 cX_p2_2
  have cX_p0_3 := X_p_3.out.cell (j := 0) rfl
  have cX_p1_3 := X_p_3.out.cell (j := 1) rfl
  have cX_p2_3 := X_p_3.out.cell (j := 2) rfl
  clear Y2_3
  have ba := below_more (Below.refl w3.heap.size w3) (.cells #[.int .i64 bb, .int .i64 tm, .slice v3 A.length c3] 31)
  have hx : BlockIs (w3.alloc (.cells #[.int .i64 bb, .int .i64 tm, .slice v3 A.length c3] 31)) w3.heap.size 31 [.int .i64 bb, .int .i64 tm, .slice v3 A.length c3] := heap_alloc_new w3 _
  have X_p_3a := hid (X_p_3.out.on ba X_p_3.out.lt)
  have B_3a := hid (below_via B_3.out ba)
  have R_w_3a := hid (R_w.out.on ba)
  have X_w_3a := hid hx
  have O3a := hid hx.lt
  clear ba hx X_p_3 B_3 R_w
  have cX_p0_3a := X_p_3a.out.cell (j := 0) rfl
  have cX_p1_3a := X_p_3a.out.cell (j := 1) rfl
  have cX_p2_3a := X_p_3a.out.cell (j := 2) rfl
  have cX_w0_3a := X_w_3a.out.cell (j := 0) rfl
  have cX_w1_3a := X_w_3a.out.cell (j := 1) rfl
  have cX_w2_3a := X_w_3a.out.cell (j := 2) rfl
  go_wp2_with fail
  refine Calls.mono (toLog_o s t ao l cap hl2 _ (HA.out.on B_3a.out)) ?_
  rintro e w4 ⟨v4, c4, rfl, hc4, h4, b4⟩
  have O4 := hid b4.size
  have Y4 := hid h4
  clear h4
  have X_p_4 := hid (X_p_3a.out.on b4 X_p_3a.out.lt)
  have B_4 := hid (below_via B_3a.out b4)
  have R_w_4 := hid (R_w_3a.out.on b4)
  have X_w_4 := hid (X_w_3a.out.on b4 X_w_3a.out.lt)
  clear b4 X_p_3a B_3a R_w_3a X_w_3a cX_p0_3a cX_p1_3a cX_p2_3a cX_w0_3a cX_w1_3a cX_w2_3a cX_p0_3 cX_p1_3 cX_p2_3
  have cX_p0_4 := X_p_4.out.cell (j := 0) rfl
  have cX_p1_4 := X_p_4.out.cell (j := 1) rfl
  have cX_p2_4 := X_p_4.out.cell (j := 2) rfl
  have cX_w0_4 := X_w_4.out.cell (j := 0) rfl
  have cX_w1_4 := X_w_4.out.cell (j := 1) rfl
  have cX_w2_4 := X_w_4.out.cell (j := 2) rfl
  have ba := below_more (Below.refl w4.heap.size w4) (.cells #[.int .i64 s, .int .i64 t, .slice v4 l.length c4] 31)
  have hx : BlockIs (w4.alloc (.cells #[.int .i64 s, .int .i64 t, .slice v4 l.length c4] 31)) w4.heap.size 31 [.int .i64 s, .int .i64 t, .slice v4 l.length c4] := heap_alloc_new w4 _
  have X_p_4a := hid (X_p_4.out.on ba X_p_4.out.lt)
  have B_4a := hid (below_via B_4.out ba)
  have R_w_4a := hid (R_w_4.out.on ba)
  have X_w_4a := hid (X_w_4.out.on ba X_w_4.out.lt)
  have Y4_4a := hid (Y4.out.on ba)
  have X_x_4a := hid hx
  have O4a := hid hx.lt
  clear ba hx X_p_4 B_4 R_w_4 X_w_4 Y4
  have cX_p0_4a := X_p_4a.out.cell (j := 0) rfl
  have cX_p1_4a := X_p_4a.out.cell (j := 1) rfl
  have cX_p2_4a := X_p_4a.out.cell (j := 2) rfl
  have cX_w0_4a := X_w_4a.out.cell (j := 0) rfl
  have cX_w1_4a := X_w_4a.out.cell (j := 1) rfl
  have cX_w2_4a := X_w_4a.out.cell (j := 2) rfl
  have cX_x0_4a := X_x_4a.out.cell (j := 0) rfl
  have cX_x1_4a := X_x_4a.out.cell (j := 1) rfl
  have cX_x2_4a := X_x_4a.out.cell (j := 2) rfl
  have CQ := hid (implLogBehind_any s t bb tm _ l c4 hs hbb hl2 HSM.out hc4 _ Y4_4a.out.ents)
  rw [hF] at CQ
  go_wp2_with fail
  refine Calls.mono (CQ.out) ?_
  rintro e w5 ⟨v5, c5, rfl, h5, b5⟩
  have O5 := hid b5.size
  have R_g := hid h5
  clear h5 CQ
  have X_p_5 := hid (X_p_4a.out.on b5 X_p_4a.out.lt)
  have B_5 := hid (below_via B_4a.out b5)
  have R_w_5 := hid (R_w_4a.out.on b5)
  have X_w_5 := hid (X_w_4a.out.on b5 X_w_4a.out.lt)
  have Y4_5 := hid (Y4_4a.out.on b5)
  have X_x_5 := hid (X_x_4a.out.on b5 X_x_4a.out.lt)
  clear b5 X_p_4a B_4a R_w_4a X_w_4a Y4_4a X_x_4a cX_p0_4a cX_p1_4a cX_p2_4a cX_w0_4a cX_w1_4a cX_w2_4a cX_x0_4a cX_x1_4a cX_x2_4a cX_p0_4 cX_p1_4 cX_p2_4 cX_w0_4 cX_w1_4 cX_w2_4
  have cX_p0_5 := X_p_5.out.cell (j := 0) rfl
  have cX_p1_5 := X_p_5.out.cell (j := 1) rfl
  have cX_p2_5 := X_p_5.out.cell (j := 2) rfl
  have cX_w0_5 := X_w_5.out.cell (j := 0) rfl
  have cX_w1_5 := X_w_5.out.cell (j := 1) rfl
  have cX_w2_5 := X_w_5.out.cell (j := 2) rfl
  have cX_x0_5 := X_x_5.out.cell (j := 0) rfl
  have cX_x1_5 := X_x_5.out.cell (j := 1) rfl
  have cX_x2_5 := X_x_5.out.cell (j := 2) rfl
  have ba := below_more (Below.refl w5.heap.size w5) (.cells #[.int .i64 bb, .int .i64 tm, .slice v5 A.length c5] 31)
  have hx : BlockIs (w5.alloc (.cells #[.int .i64 bb, .int .i64 tm, .slice v5 A.length c5] 31)) w5.heap.size 31 [.int .i64 bb, .int .i64 tm, .slice v5 A.length c5] := heap_alloc_new w5 _
  have X_p_5a := hid (X_p_5.out.on ba X_p_5.out.lt)
  have B_5a := hid (below_via B_5.out ba)
  have R_w_5a := hid (R_w_5.out.on ba)
  have X_w_5a := hid (X_w_5.out.on ba X_w_5.out.lt)
  have Y4_5a := hid (Y4_5.out.on ba)
  have X_x_5a := hid (X_x_5.out.on ba X_x_5.out.lt)
  have R_g_5a := hid (R_g.out.on ba)
  have X_g_5a := hid hx
  have O5a := hid hx.lt
  clear ba hx X_p_5 B_5 R_w_5 X_w_5 Y4_5 X_x_5 R_g
  have cX_p0_5a := X_p_5a.out.cell (j := 0) rfl
  have cX_p1_5a := X_p_5a.out.cell (j := 1) rfl
  have cX_p2_5a := X_p_5a.out.cell (j := 2) rfl
  have cX_w0_5a := X_w_5a.out.cell (j := 0) rfl
  have cX_w1_5a := X_w_5a.out.cell (j := 1) rfl
  have cX_w2_5a := X_w_5a.out.cell (j := 2) rfl
  have cX_x0_5a := X_x_5a.out.cell (j := 0) rfl
  have cX_x1_5a := X_x_5a.out.cell (j := 1) rfl
  have cX_x2_5a := X_x_5a.out.cell (j := 2) rfl
  have cX_g0_5a := X_g_5a.out.cell (j := 0) rfl
  have cX_g1_5a := X_g_5a.out.cell (j := 1) rfl
  have cX_g2_5a := X_g_5a.out.cell (j := 2) rfl
  go_wp2_with fail
  refine Calls.mono (eqLog_o bb tm v5 v3 A c5 c3 (by omega) _ R_g_5a.out.ents R_w_5a.out.ents) ?_
  rintro e w6 ⟨rfl, b6⟩
  have O6 := hid b6.size
  have X_p_6 := hid (X_p_5a.out.on b6 X_p_5a.out.lt)
  have B_6 := hid (below_via B_5a.out b6)
  have R_w_6 := hid (R_w_5a.out.on b6)
  have X_w_6 := hid (X_w_5a.out.on b6 X_w_5a.out.lt)
  have Y4_6 := hid (Y4_5a.out.on b6)
  have X_x_6 := hid (X_x_5a.out.on b6 X_x_5a.out.lt)
  have R_g_6 := hid (R_g_5a.out.on b6)
  have X_g_6 := hid (X_g_5a.out.on b6 X_g_5a.out.lt)
  clear b6 X_p_5a B_5a R_w_5a X_w_5a Y4_5a X_x_5a R_g_5a X_g_5a cX_p0_5a cX_p1_5a cX_p2_5a cX_w0_5a cX_w1_5a cX_w2_5a cX_x0_5a cX_x1_5a cX_x2_5a cX_g0_5a cX_g1_5a cX_g2_5a cX_p0_5 cX_p1_5 cX_p2_5 cX_w0_5 cX_w1_5 cX_w2_5 cX_x0_5 cX_x1_5 cX_x2_5
  have cX_p0_6 := X_p_6.out.cell (j := 0) rfl
  have cX_p1_6 := X_p_6.out.cell (j := 1) rfl
  have cX_p2_6 := X_p_6.out.cell (j := 2) rfl
  have cX_w0_6 := X_w_6.out.cell (j := 0) rfl
  have cX_w1_6 := X_w_6.out.cell (j := 1) rfl
  have cX_w2_6 := X_w_6.out.cell (j := 2) rfl
  have cX_x0_6 := X_x_6.out.cell (j := 0) rfl
  have cX_x1_6 := X_x_6.out.cell (j := 1) rfl
  have cX_x2_6 := X_x_6.out.cell (j := 2) rfl
  have cX_g0_6 := X_g_6.out.cell (j := 0) rfl
  have cX_g1_6 := X_g_6.out.cell (j := 1) rfl
  have cX_g2_6 := X_g_6.out.cell (j := 2) rfl
  have CT : Hid (Calls Try.prog 12 #[.agg #[.int .i64 s, .int .i64 t, .slice ao l.length cap]] w6.drew fun e w7 => ∃ v7 c7, e = .returned (.agg #[.int .i64 s, .int .i64 t, .slice v7 l.length c7]) ∧ (w7.cell? ⟨w4.heap.size, 0, none⟩ = some (.int .i64 s) ∧ w7.cell? ⟨w4.heap.size, 1, none⟩ = some (.int .i64 t) ∧ w7.cell? ⟨w4.heap.size, 2, none⟩ = some (.slice v4 l.length c4)) ∧ Hid (Below w6.heap.size w6 w7 ∧ EntsAt w7 v7 l)) := by
    have hd : Below w6.heap.size w6 w6.drew := below_drewN (Below.refl _ _) 1
    refine Calls.mono (toLog_o s t ao l cap hl2 w6.drew (HA.out.on (below_via B_6.out hd))) ?_
    rintro e w7 ⟨v7, c7, rfl, _, h7, b7⟩
    have h67 := below_via hd b7
    have k67 := X_x_6.out.on h67 X_x_6.out.lt
    exact ⟨v7, c7, rfl, ⟨k67.cell (j := 0) rfl, k67.cell (j := 1) rfl, k67.cell (j := 2) rfl⟩, h67, h7.ents⟩
  go_wp2
  go_region_with (first | (go_at_call 12; refine Calls.mono CT.out ?_; rintro e w7 ⟨v7, c7, rfl, ⟨y0, y1, y2⟩, H7⟩) | (go_at_call 15; refine (eqLog_o s t _ _ l _ _ (by omega) _ ((Y4_6.out.on H7.out.1).ents) H7.out.2).mono ?_; rintro e w8 ⟨rfl, b8⟩))
  all_goals
    have bb := below_via H7.out.1 b8
    have O8 := hid bb.size
    have X_p_8 := hid (X_p_6.out.on bb X_p_6.out.lt)
    have B_8 := hid (below_via B_6.out bb)
    have R_w_8 := hid (R_w_6.out.on bb)
    have X_w_8 := hid (X_w_6.out.on bb X_w_6.out.lt)
    have Y4_8 := hid (Y4_6.out.on bb)
    have X_x_8 := hid (X_x_6.out.on bb X_x_6.out.lt)
    have R_g_8 := hid (R_g_6.out.on bb)
    have X_g_8 := hid (X_g_6.out.on bb X_g_6.out.lt)
    clear bb b8 H7 CT y0 y1 y2 X_p_6 B_6 R_w_6 X_w_6 Y4_6 X_x_6 R_g_6 X_g_6 cX_p0_6 cX_p1_6 cX_p2_6 cX_w0_6 cX_w1_6 cX_w2_6 cX_x0_6 cX_x1_6 cX_x2_6 cX_g0_6 cX_g1_6 cX_g2_6
    have cX_p0_8 := X_p_8.out.cell (j := 0) rfl
    have cX_p1_8 := X_p_8.out.cell (j := 1) rfl
    have cX_p2_8 := X_p_8.out.cell (j := 2) rfl
    have cX_w0_8 := X_w_8.out.cell (j := 0) rfl
    have cX_w1_8 := X_w_8.out.cell (j := 1) rfl
    have cX_w2_8 := X_w_8.out.cell (j := 2) rfl
    have cX_x0_8 := X_x_8.out.cell (j := 0) rfl
    have cX_x1_8 := X_x_8.out.cell (j := 1) rfl
    have cX_x2_8 := X_x_8.out.cell (j := 2) rfl
    have cX_g0_8 := X_g_8.out.cell (j := 0) rfl
    have cX_g1_8 := X_g_8.out.cell (j := 1) rfl
    have cX_g2_8 := X_g_8.out.cell (j := 2) rfl
    go_wp2_with fail
    refine (markLog_o s t 1 v4 c4 l ((w3.alloc (.cells #[.int .i64 bb, .int .i64 tm, .slice v3 A.length c3] 31)).heap.size) (w4.heap.size) (by omega) (by omega) _ (by have := O0.out; have := O1.out; have := O2.out; have := O3.out; have := O3a.out; have := O4.out; have := O4a.out; have := O5.out; have := O5a.out; have := O6.out; have := O8.out; omega) Y4_8.out).mono ?_
    rintro e w9 ⟨rfl, hm9, kp, b9⟩
    have O9 := hid b9.size
    have X_p_9 := hid (X_p_8.out.kept kp (by have := O0.out; have := O1.out; have := O2.out; have := O3.out; have := O3a.out; have := O4.out; have := O4a.out; have := O5.out; have := O5a.out; have := O6.out; have := O8.out; have := O9.out; omega))
    have B_9 := hid (B_8.out.trans (b9.mono (by have := O0.out; have := O1.out; have := O2.out; have := O3.out; have := O3a.out; have := O4.out; have := O4a.out; have := O5.out; have := O5a.out; have := O6.out; have := O8.out; have := O9.out; omega)))
    have R_w_9 := hid (R_w_8.out.kept kp (by have := O0.out; have := O1.out; have := O2.out; have := O3.out; have := O3a.out; have := O4.out; have := O4a.out; have := O5.out; have := O5a.out; have := O6.out; have := O8.out; have := O9.out; omega))
    have X_w_9 := hid (X_w_8.out.kept kp (by have := O0.out; have := O1.out; have := O2.out; have := O3.out; have := O3a.out; have := O4.out; have := O4a.out; have := O5.out; have := O5a.out; have := O6.out; have := O8.out; have := O9.out; omega))
    have X_x_9 := hid (X_x_8.out.kept kp (by have := O0.out; have := O1.out; have := O2.out; have := O3.out; have := O3a.out; have := O4.out; have := O4a.out; have := O5.out; have := O5a.out; have := O6.out; have := O8.out; have := O9.out; omega))
    have R_g_9 := hid (R_g_8.out.kept kp (by have := O0.out; have := O1.out; have := O2.out; have := O3.out; have := O3a.out; have := O4.out; have := O4a.out; have := O5.out; have := O5a.out; have := O6.out; have := O8.out; have := O9.out; omega))
    have X_g_9 := hid (X_g_8.out.kept kp (by have := O0.out; have := O1.out; have := O2.out; have := O3.out; have := O3a.out; have := O4.out; have := O4a.out; have := O5.out; have := O5a.out; have := O6.out; have := O8.out; have := O9.out; omega))
    clear kp b9 Y4_8 X_p_8 B_8 R_w_8 X_w_8 X_x_8 R_g_8 X_g_8 cX_p0_8 cX_p1_8 cX_p2_8 cX_w0_8 cX_w1_8 cX_w2_8 cX_x0_8 cX_x1_8 cX_x2_8 cX_g0_8 cX_g1_8 cX_g2_8
    have cX_p0_9 := X_p_9.out.cell (j := 0) rfl
    have cX_p1_9 := X_p_9.out.cell (j := 1) rfl
    have cX_p2_9 := X_p_9.out.cell (j := 2) rfl
    have cX_w0_9 := X_w_9.out.cell (j := 0) rfl
    have cX_w1_9 := X_w_9.out.cell (j := 1) rfl
    have cX_w2_9 := X_w_9.out.cell (j := 2) rfl
    have cX_x0_9 := X_x_9.out.cell (j := 0) rfl
    have cX_x1_9 := X_x_9.out.cell (j := 1) rfl
    have cX_x2_9 := X_x_9.out.cell (j := 2) rfl
    have cX_g0_9 := X_g_9.out.cell (j := 0) rfl
    have cX_g1_9 := X_g_9.out.cell (j := 1) rfl
    have cX_g2_9 := X_g_9.out.cell (j := 2) rfl
    clear hm9
    go_wp2_with fail
    refine Calls.mono (eqLog_o bb tm v5 v3 A c5 c3 (by omega) _ R_g_9.out.ents R_w_9.out.ents) ?_
    rintro e w10 ⟨rfl, b10⟩
    have O10 := hid b10.size
    have X_p_10 := hid (X_p_9.out.on b10 X_p_9.out.lt)
    have B_10 := hid (below_via B_9.out b10)
    have R_w_10 := hid (R_w_9.out.on b10)
    have X_w_10 := hid (X_w_9.out.on b10 X_w_9.out.lt)
    have X_x_10 := hid (X_x_9.out.on b10 X_x_9.out.lt)
    have R_g_10 := hid (R_g_9.out.on b10)
    have X_g_10 := hid (X_g_9.out.on b10 X_g_9.out.lt)
    clear b10 X_p_9 B_9 R_w_9 X_w_9 X_x_9 R_g_9 X_g_9 cX_p0_9 cX_p1_9 cX_p2_9 cX_w0_9 cX_w1_9 cX_w2_9 cX_x0_9 cX_x1_9 cX_x2_9 cX_g0_9 cX_g1_9 cX_g2_9
    have cX_p0_10 := X_p_10.out.cell (j := 0) rfl
    have cX_p1_10 := X_p_10.out.cell (j := 1) rfl
    have cX_p2_10 := X_p_10.out.cell (j := 2) rfl
    have cX_w0_10 := X_w_10.out.cell (j := 0) rfl
    have cX_w1_10 := X_w_10.out.cell (j := 1) rfl
    have cX_w2_10 := X_w_10.out.cell (j := 2) rfl
    have cX_x0_10 := X_x_10.out.cell (j := 0) rfl
    have cX_x1_10 := X_x_10.out.cell (j := 1) rfl
    have cX_x2_10 := X_x_10.out.cell (j := 2) rfl
    have cX_g0_10 := X_g_10.out.cell (j := 0) rfl
    have cX_g1_10 := X_g_10.out.cell (j := 1) rfl
    have cX_g2_10 := X_g_10.out.cell (j := 2) rfl
    go_wp2_with fail
    refine (markLog_o bb tm 1 v5 c5 A ((w4.alloc (.cells #[.int .i64 s, .int .i64 t, .slice v4 l.length c4] 31)).heap.size) (w5.heap.size) (by omega) (by omega) _ (by have := O0.out; have := O1.out; have := O2.out; have := O3.out; have := O3a.out; have := O4.out; have := O4a.out; have := O5.out; have := O5a.out; have := O6.out; have := O8.out; have := O9.out; have := O10.out; omega) R_g_10.out).mono ?_
    rintro e w11 ⟨rfl, hm11, kp, b11⟩
    have O11 := hid b11.size
    have X_p_11 := hid (X_p_10.out.kept kp (by have := O0.out; have := O1.out; have := O2.out; have := O3.out; have := O3a.out; have := O4.out; have := O4a.out; have := O5.out; have := O5a.out; have := O6.out; have := O8.out; have := O9.out; have := O10.out; have := O11.out; omega))
    have B_11 := hid (B_10.out.trans (b11.mono (by have := O0.out; have := O1.out; have := O2.out; have := O3.out; have := O3a.out; have := O4.out; have := O4a.out; have := O5.out; have := O5a.out; have := O6.out; have := O8.out; have := O9.out; have := O10.out; have := O11.out; omega)))
    have R_w_11 := hid (R_w_10.out.kept kp (by have := O0.out; have := O1.out; have := O2.out; have := O3.out; have := O3a.out; have := O4.out; have := O4a.out; have := O5.out; have := O5a.out; have := O6.out; have := O8.out; have := O9.out; have := O10.out; have := O11.out; omega))
    have X_w_11 := hid (X_w_10.out.kept kp (by have := O0.out; have := O1.out; have := O2.out; have := O3.out; have := O3a.out; have := O4.out; have := O4a.out; have := O5.out; have := O5a.out; have := O6.out; have := O8.out; have := O9.out; have := O10.out; have := O11.out; omega))
    have X_x_11 := hid (X_x_10.out.kept kp (by have := O0.out; have := O1.out; have := O2.out; have := O3.out; have := O3a.out; have := O4.out; have := O4a.out; have := O5.out; have := O5a.out; have := O6.out; have := O8.out; have := O9.out; have := O10.out; have := O11.out; omega))
    have X_g_11 := hid (X_g_10.out.kept kp (by have := O0.out; have := O1.out; have := O2.out; have := O3.out; have := O3a.out; have := O4.out; have := O4a.out; have := O5.out; have := O5a.out; have := O6.out; have := O8.out; have := O9.out; have := O10.out; have := O11.out; omega))
    clear kp b11 R_g_10 X_p_10 B_10 R_w_10 X_w_10 X_x_10 X_g_10 cX_p0_10 cX_p1_10 cX_p2_10 cX_w0_10 cX_w1_10 cX_w2_10 cX_x0_10 cX_x1_10 cX_x2_10 cX_g0_10 cX_g1_10 cX_g2_10
    have cX_p0_11 := X_p_11.out.cell (j := 0) rfl
    have cX_p1_11 := X_p_11.out.cell (j := 1) rfl
    have cX_p2_11 := X_p_11.out.cell (j := 2) rfl
    have cX_w0_11 := X_w_11.out.cell (j := 0) rfl
    have cX_w1_11 := X_w_11.out.cell (j := 1) rfl
    have cX_w2_11 := X_w_11.out.cell (j := 2) rfl
    have cX_x0_11 := X_x_11.out.cell (j := 0) rfl
    have cX_x1_11 := X_x_11.out.cell (j := 1) rfl
    have cX_x2_11 := X_x_11.out.cell (j := 2) rfl
    have cX_g0_11 := X_g_11.out.cell (j := 0) rfl
    have cX_g1_11 := X_g_11.out.cell (j := 1) rfl
    have cX_g2_11 := X_g_11.out.cell (j := 2) rfl
    have M_11 := hid hm11
    clear hm11
    go_wp2_with fail
    refine Calls.mono (heldLog_any bb tm v5 A.length c5 1 (by omega) hA2 _ M_11.out) ?_
    rintro e w12 ⟨rfl, b12⟩
    have O12 := hid b12.size
    have X_p_12 := hid (X_p_11.out.on b12 X_p_11.out.lt)
    have B_12 := hid (below_via B_11.out b12)
    have R_w_12 := hid (R_w_11.out.on b12)
    have X_w_12 := hid (X_w_11.out.on b12 X_w_11.out.lt)
    have X_x_12 := hid (X_x_11.out.on b12 X_x_11.out.lt)
    have X_g_12 := hid (X_g_11.out.on b12 X_g_11.out.lt)
    have M_12 := hid (M_11.out.on b12)
    clear b12 X_p_11 B_11 R_w_11 X_w_11 X_x_11 X_g_11 M_11 cX_p0_11 cX_p1_11 cX_p2_11 cX_w0_11 cX_w1_11 cX_w2_11 cX_x0_11 cX_x1_11 cX_x2_11 cX_g0_11 cX_g1_11 cX_g2_11
    have cX_p0_12 := X_p_12.out.cell (j := 0) rfl
    have cX_p1_12 := X_p_12.out.cell (j := 1) rfl
    have cX_p2_12 := X_p_12.out.cell (j := 2) rfl
    have cX_w0_12 := X_w_12.out.cell (j := 0) rfl
    have cX_w1_12 := X_w_12.out.cell (j := 1) rfl
    have cX_w2_12 := X_w_12.out.cell (j := 2) rfl
    have cX_x0_12 := X_x_12.out.cell (j := 0) rfl
    have cX_x1_12 := X_x_12.out.cell (j := 1) rfl
    have cX_x2_12 := X_x_12.out.cell (j := 2) rfl
    have cX_g0_12 := X_g_12.out.cell (j := 0) rfl
    have cX_g1_12 := X_g_12.out.cell (j := 1) rfl
    have cX_g2_12 := X_g_12.out.cell (j := 2) rfl
    go_wp2_with fail
    refine Calls.mono (toLog_o s t ao l cap hl2 _ (HA.out.on B_12.out)) ?_
    rintro e w13 ⟨v13, c13, rfl, hc13, h13, b13⟩
    have O13 := hid b13.size
    have Y13 := hid h13
    clear h13
    have X_p_13 := hid (X_p_12.out.on b13 X_p_12.out.lt)
    have B_13 := hid (below_via B_12.out b13)
    have R_w_13 := hid (R_w_12.out.on b13)
    have X_w_13 := hid (X_w_12.out.on b13 X_w_12.out.lt)
    have X_x_13 := hid (X_x_12.out.on b13 X_x_12.out.lt)
    have X_g_13 := hid (X_g_12.out.on b13 X_g_12.out.lt)
    have M_13 := hid (M_12.out.on b13)
    clear b13 X_p_12 B_12 R_w_12 X_w_12 X_x_12 X_g_12 M_12 cX_p0_12 cX_p1_12 cX_p2_12 cX_w0_12 cX_w1_12 cX_w2_12 cX_x0_12 cX_x1_12 cX_x2_12 cX_g0_12 cX_g1_12 cX_g2_12
    have cX_p0_13 := X_p_13.out.cell (j := 0) rfl
    have cX_p1_13 := X_p_13.out.cell (j := 1) rfl
    have cX_p2_13 := X_p_13.out.cell (j := 2) rfl
    have cX_w0_13 := X_w_13.out.cell (j := 0) rfl
    have cX_w1_13 := X_w_13.out.cell (j := 1) rfl
    have cX_w2_13 := X_w_13.out.cell (j := 2) rfl
    have cX_x0_13 := X_x_13.out.cell (j := 0) rfl
    have cX_x1_13 := X_x_13.out.cell (j := 1) rfl
    have cX_x2_13 := X_x_13.out.cell (j := 2) rfl
    have cX_g0_13 := X_g_13.out.cell (j := 0) rfl
    have cX_g1_13 := X_g_13.out.cell (j := 1) rfl
    have cX_g2_13 := X_g_13.out.cell (j := 2) rfl
    have CQ := hid (implLogBehind_any s t bb tm _ l c13 hs hbb hl2 HSM.out hc13 _ Y13.out.ents)
    rw [hF] at CQ
    go_wp2_with fail
    refine Calls.mono (CQ.out) ?_
    rintro e w14 ⟨v14, c14, rfl, h14, b14⟩
    have O14 := hid b14.size
    have R_h := hid h14
    clear h14 CQ
    have X_p_14 := hid (X_p_13.out.on b14 X_p_13.out.lt)
    have B_14 := hid (below_via B_13.out b14)
    have R_w_14 := hid (R_w_13.out.on b14)
    have X_w_14 := hid (X_w_13.out.on b14 X_w_13.out.lt)
    have X_x_14 := hid (X_x_13.out.on b14 X_x_13.out.lt)
    have X_g_14 := hid (X_g_13.out.on b14 X_g_13.out.lt)
    have M_14 := hid (M_13.out.on b14)
    have Y13_14 := hid (Y13.out.on b14)
    clear b14 X_p_13 B_13 R_w_13 X_w_13 X_x_13 X_g_13 M_13 Y13 cX_p0_13 cX_p1_13 cX_p2_13 cX_w0_13 cX_w1_13 cX_w2_13 cX_x0_13 cX_x1_13 cX_x2_13 cX_g0_13 cX_g1_13 cX_g2_13
    have cX_p0_14 := X_p_14.out.cell (j := 0) rfl
    have cX_p1_14 := X_p_14.out.cell (j := 1) rfl
    have cX_p2_14 := X_p_14.out.cell (j := 2) rfl
    have cX_w0_14 := X_w_14.out.cell (j := 0) rfl
    have cX_w1_14 := X_w_14.out.cell (j := 1) rfl
    have cX_w2_14 := X_w_14.out.cell (j := 2) rfl
    have cX_x0_14 := X_x_14.out.cell (j := 0) rfl
    have cX_x1_14 := X_x_14.out.cell (j := 1) rfl
    have cX_x2_14 := X_x_14.out.cell (j := 2) rfl
    have cX_g0_14 := X_g_14.out.cell (j := 0) rfl
    have cX_g1_14 := X_g_14.out.cell (j := 1) rfl
    have cX_g2_14 := X_g_14.out.cell (j := 2) rfl
    clear Y13_14
    have ba := below_more (Below.refl w14.heap.size w14) (.cells #[.int .i64 bb, .int .i64 tm, .slice v14 A.length c14] 31)
    have hx : BlockIs (w14.alloc (.cells #[.int .i64 bb, .int .i64 tm, .slice v14 A.length c14] 31)) w14.heap.size 31 [.int .i64 bb, .int .i64 tm, .slice v14 A.length c14] := heap_alloc_new w14 _
    have X_p_14a := hid (X_p_14.out.on ba X_p_14.out.lt)
    have B_14a := hid (below_via B_14.out ba)
    have R_w_14a := hid (R_w_14.out.on ba)
    have X_w_14a := hid (X_w_14.out.on ba X_w_14.out.lt)
    have X_x_14a := hid (X_x_14.out.on ba X_x_14.out.lt)
    have X_g_14a := hid (X_g_14.out.on ba X_g_14.out.lt)
    have M_14a := hid (M_14.out.on ba)
    have R_h_14a := hid (R_h.out.on ba)
    have X_h_14a := hid hx
    have O14a := hid hx.lt
    clear ba hx X_p_14 B_14 R_w_14 X_w_14 X_x_14 X_g_14 M_14 R_h
    have cX_p0_14a := X_p_14a.out.cell (j := 0) rfl
    have cX_p1_14a := X_p_14a.out.cell (j := 1) rfl
    have cX_p2_14a := X_p_14a.out.cell (j := 2) rfl
    have cX_w0_14a := X_w_14a.out.cell (j := 0) rfl
    have cX_w1_14a := X_w_14a.out.cell (j := 1) rfl
    have cX_w2_14a := X_w_14a.out.cell (j := 2) rfl
    have cX_x0_14a := X_x_14a.out.cell (j := 0) rfl
    have cX_x1_14a := X_x_14a.out.cell (j := 1) rfl
    have cX_x2_14a := X_x_14a.out.cell (j := 2) rfl
    have cX_g0_14a := X_g_14a.out.cell (j := 0) rfl
    have cX_g1_14a := X_g_14a.out.cell (j := 1) rfl
    have cX_g2_14a := X_g_14a.out.cell (j := 2) rfl
    have cX_h0_14a := X_h_14a.out.cell (j := 0) rfl
    have cX_h1_14a := X_h_14a.out.cell (j := 1) rfl
    have cX_h2_14a := X_h_14a.out.cell (j := 2) rfl
    go_wp2_with fail
    refine Calls.mono (eqLog_o bb tm v14 v3 A c14 c3 (by omega) _ R_h_14a.out.ents R_w_14a.out.ents) ?_
    rintro e w15 ⟨rfl, b15⟩
    have O15 := hid b15.size
    have X_p_15 := hid (X_p_14a.out.on b15 X_p_14a.out.lt)
    have B_15 := hid (below_via B_14a.out b15)
    have R_w_15 := hid (R_w_14a.out.on b15)
    have X_w_15 := hid (X_w_14a.out.on b15 X_w_14a.out.lt)
    have X_x_15 := hid (X_x_14a.out.on b15 X_x_14a.out.lt)
    have X_g_15 := hid (X_g_14a.out.on b15 X_g_14a.out.lt)
    have M_15 := hid (M_14a.out.on b15)
    have R_h_15 := hid (R_h_14a.out.on b15)
    have X_h_15 := hid (X_h_14a.out.on b15 X_h_14a.out.lt)
    clear b15 X_p_14a B_14a R_w_14a X_w_14a X_x_14a X_g_14a M_14a R_h_14a X_h_14a cX_p0_14a cX_p1_14a cX_p2_14a cX_w0_14a cX_w1_14a cX_w2_14a cX_x0_14a cX_x1_14a cX_x2_14a cX_g0_14a cX_g1_14a cX_g2_14a cX_h0_14a cX_h1_14a cX_h2_14a cX_p0_14 cX_p1_14 cX_p2_14 cX_w0_14 cX_w1_14 cX_w2_14 cX_x0_14 cX_x1_14 cX_x2_14 cX_g0_14 cX_g1_14 cX_g2_14
    have cX_p0_15 := X_p_15.out.cell (j := 0) rfl
    have cX_p1_15 := X_p_15.out.cell (j := 1) rfl
    have cX_p2_15 := X_p_15.out.cell (j := 2) rfl
    have cX_w0_15 := X_w_15.out.cell (j := 0) rfl
    have cX_w1_15 := X_w_15.out.cell (j := 1) rfl
    have cX_w2_15 := X_w_15.out.cell (j := 2) rfl
    have cX_x0_15 := X_x_15.out.cell (j := 0) rfl
    have cX_x1_15 := X_x_15.out.cell (j := 1) rfl
    have cX_x2_15 := X_x_15.out.cell (j := 2) rfl
    have cX_g0_15 := X_g_15.out.cell (j := 0) rfl
    have cX_g1_15 := X_g_15.out.cell (j := 1) rfl
    have cX_g2_15 := X_g_15.out.cell (j := 2) rfl
    have cX_h0_15 := X_h_15.out.cell (j := 0) rfl
    have cX_h1_15 := X_h_15.out.cell (j := 1) rfl
    have cX_h2_15 := X_h_15.out.cell (j := 2) rfl
    go_wp2_with fail
    refine Calls.mono (heldLog_any bb tm v5 A.length c5 1 (by omega) hA2 _ M_15.out) ?_
    rintro e w16 ⟨rfl, b16⟩
    have O16 := hid b16.size
    have X_p_16 := hid (X_p_15.out.on b16 X_p_15.out.lt)
    have B_16 := hid (below_via B_15.out b16)
    have R_w_16 := hid (R_w_15.out.on b16)
    have X_w_16 := hid (X_w_15.out.on b16 X_w_15.out.lt)
    have X_x_16 := hid (X_x_15.out.on b16 X_x_15.out.lt)
    have X_g_16 := hid (X_g_15.out.on b16 X_g_15.out.lt)
    have M_16 := hid (M_15.out.on b16)
    have R_h_16 := hid (R_h_15.out.on b16)
    have X_h_16 := hid (X_h_15.out.on b16 X_h_15.out.lt)
    clear b16 X_p_15 B_15 R_w_15 X_w_15 X_x_15 X_g_15 M_15 R_h_15 X_h_15 cX_p0_15 cX_p1_15 cX_p2_15 cX_w0_15 cX_w1_15 cX_w2_15 cX_x0_15 cX_x1_15 cX_x2_15 cX_g0_15 cX_g1_15 cX_g2_15 cX_h0_15 cX_h1_15 cX_h2_15
    have cX_p0_16 := X_p_16.out.cell (j := 0) rfl
    have cX_p1_16 := X_p_16.out.cell (j := 1) rfl
    have cX_p2_16 := X_p_16.out.cell (j := 2) rfl
    have cX_w0_16 := X_w_16.out.cell (j := 0) rfl
    have cX_w1_16 := X_w_16.out.cell (j := 1) rfl
    have cX_w2_16 := X_w_16.out.cell (j := 2) rfl
    have cX_x0_16 := X_x_16.out.cell (j := 0) rfl
    have cX_x1_16 := X_x_16.out.cell (j := 1) rfl
    have cX_x2_16 := X_x_16.out.cell (j := 2) rfl
    have cX_g0_16 := X_g_16.out.cell (j := 0) rfl
    have cX_g1_16 := X_g_16.out.cell (j := 1) rfl
    have cX_g2_16 := X_g_16.out.cell (j := 2) rfl
    have cX_h0_16 := X_h_16.out.cell (j := 0) rfl
    have cX_h1_16 := X_h_16.out.cell (j := 1) rfl
    have cX_h2_16 := X_h_16.out.cell (j := 2) rfl
    go_wp2
    go_ret
    exact ⟨rfl, B_16.out⟩

theorem own : ownKnob Try.prog.godebug = none := by kernel_rfl
theorem laidOut : laidOutB Try.prog = true := by kernel_rfl
theorem rowed : varsRowed Try.prog Rows.fnExactLogBehindSpec.vars = true := by kernel_rfl
set_option maxRecDepth 1000000 in
theorem contract (H : Type) (enc : TypeId × Value → H) (W : World) (base : Nat) (args : Array Value) (ds gs : List (DataW H)) (before : List MemPlace)
    (hval : ∀ (j : Nat) t v, Try.f4.params[j]? = some t → args[j]? = some v → Value.okWide Try.prog W .any base t v)
    (hW : DataW.Whole enc Try.prog Try.f4.params.toList Rows.fnExactLogBehindSpec.vars false W args.toList ds gs before) (_hL : laidMetH Try.prog Rows.fnExactLogBehindRow.laid W) :
    Calls Try.prog 4 args W fun e W' => ∃ v, e = .returned v ∧ Rows.fnExactLogBehindSpec.post enc Try.prog Try.f4 false true false false W args v W' := by
  have hW' := hW
  obtain ⟨p, q, hA0, hV0, rfl, hfz, hnd⟩ := hW
  have hV : DataW.TrodVars enc Try.prog W (fun _ => true) Rows.fnExactLogBehindSpec.vars gs q := hV0
  have hA : DataW.TrodAll enc Try.prog W 0 (fun _ => true) true Try.f4.params.toList args.toList ds p := hA0
  rw [Try.params4] at hA hval
  obtain ⟨v0, vs0, d0, ds0, p0, q0, hargs0, rfl, rfl, h0, r0⟩ := trodAll_cons hA
  obtain ⟨v1, vs1, d1, ds1, p1, q1, hargs1, rfl, rfl, h1, r1⟩ := trodAll_cons r0
  subst hargs1
  obtain ⟨v2, vs2, d2, ds2, p2, q2, hargs2, rfl, rfl, h2, r2⟩ := trodAll_cons r1
  subst hargs2
  obtain ⟨rfl, rfl, rfl⟩ := trodAll_nil r2
  obtain rfl : args = #[v0, v1, v2] := by cases args; simp_all
  have k0 := h0
  have lt0 : ∀ x ∈ p0, x.block < W.heap.size := by obtain ⟨m, hm⟩ := k0; exact DataW.trod_lt m _ _ _ hm
  obtain ⟨s0, t0, a0, l0, cap0, rfl, hs0, ht0, hc0, hm0, hat0, hfit0⟩ := open_log (hval 0 24 v0 rfl rfl) h0
  obtain ⟨a1, rfl, rfl, rfl, w1⟩ := open_int Try.underlying3 (hval 1 3 v1 rfl rfl) h1
  obtain ⟨a2, rfl, rfl, rfl, w2⟩ := open_int Try.underlying3 (hval 2 3 v2 rfl rfl) h2
  clear hA0 hV0
  obtain ⟨rfl, rfl⟩ := trodVars_none hV
  refine (walk s0 t0 hs0 ht0 a0 l0 cap0 (Nat.le_trans hc0 hm0) hfit0 a1 w1 a2 w2 W hat0).mono fun e W' ⟨he, bel⟩ => ?_
  subst he
  exact ⟨_, rfl, _, _, _, [], _, [], hW', trodAll_mk1 (shut_bool Try.underlying4 _), trodAll_cons_mk (Below.trod laidOut (by kernel_rfl) (of_decide_eq_true (by kernel_rfl)) k0 bel lt0) (trodAll_cons_mk (shut_int Try.underlying3 w1) (trodAll_cons_mk (shut_int Try.underlying3 w2) (trodAll_mk0))), rfl, bel.frame _, fun h => by cases h⟩

def put (cs : Array Value) : Obj → Obj
  | .cells _ t frozen => .cells cs t frozen
  | o => o

/-- a world for the witness: the tables hold what their initialisers lay -/
def laidWorld (w : World) : World := { w with heap := w.heap }
theorem laid_met (os : Os) : laidMet Try.prog Rows.fnExactLogBehindRow.laid ((laidWorld (World.holding Try.prog os ⟨#[], #[], []⟩)).forCall (fun _ _ => 0) ⟨#[], #[.agg #[.int .i64 0, .int .i64 0, .slice none 0 0], .int .i64 0, .int .i64 0], []⟩).memory :=
  laidMet_of_run' 8 (by kernel_rfl) (by kernel_rfl)
theorem reads (os : Os) {H : Type} (enc : TypeId × Value → H) : ∃ places, DataW.whole enc Try.prog ((laidWorld (World.holding Try.prog os ⟨#[], #[], []⟩)).forCall (fun _ _ => 0) ⟨#[], #[.agg #[.int .i64 0, .int .i64 0, .slice none 0 0], .int .i64 0, .int .i64 0], []⟩).memory Try.f4.params.toList Rows.fnExactLogBehindSpec.vars false #[Value.agg #[.int .i64 0, .int .i64 0, .slice none 0 0], .int .i64 0, .int .i64 0].toList 8 = some ([.agg [.lit (.int .i64 0), .lit (.int .i64 0), .nil], .lit (.int .i64 0), .lit (.int .i64 0)], [], places) :=
  ⟨[], by kernel_rfl⟩

set_option maxRecDepth 1000000 in
theorem lifted (os : Os) (started : os.Started) (H : Type) (enc : TypeId × Value → H) (F : Stop.Interp) :
    ReturnsInHanded {} Try.checked os 4 .any ((OpenSpec.ofChange Rows.fnExactLogBehindSpec).preRow enc Try.prog Try.f4 Rows.fnExactLogBehindRow.domain false Rows.fnExactLogBehindRow.laid) (((OpenSpec.ofChange Rows.fnExactLogBehindSpec).at F).post enc Try.prog Try.f4 false true false false) := by
  obtain ⟨places, hx⟩ := reads os enc
  refine returnsInHanded_of_row (C := Try.checked) (s := OpenSpec.ofChange Rows.fnExactLogBehindSpec) own started (by kernel_rfl) Try.func4
    (witness_row_at (enc := enc) (C := Try.checked) false (laidWorld (World.holding Try.prog os ⟨#[], #[], []⟩)) #[.agg #[.int .i64 0, .int .i64 0, .slice none 0 0], .int .i64 0, .int .i64 0] rfl (by kernel_rfl) (by kernel_rfl) (by kernel_rfl)
      (OpenSpec.preRow_of_cond 8 hx (by kernel_rfl) (fun k hk => by cases hk) (by kernel_rfl) (laid_met os))) ?_
  intro W base args ds gs before hval hW _ _ _ hL _ _
  exact contract H enc W base args ds gs before hval hW hL

theorem said : Rows.FnExactLogBehindSaid :=
  OpenClaim.holds_of_cond 4 Try.f4 rfl rfl rfl rfl rfl rfl rfl ⟨rfl, rfl, rfl, rfl, rfl⟩ rfl rfl rfl rfl rfl (by kernel_rfl) Try.func4 (by kernel_rfl)
    (of_decide_eq_true (by kernel_rfl)) (by unfold Func.isWrapper; first | (rw [if_pos (by decide +kernel)]; kernel_rfl) | (rw [if_neg (by decide +kernel)]; exact ⟨rfl, rfl⟩))
    (fun os started H enc _ F => by rw [OpenClaim.pre_eq_preRow]; exact lifted os started H enc F)

end Go.Proofs.Ytjkgjnpifdafaaa.fnExactLogBehind
