/-
  For every argument, laws.FnExactPush returns true: impl.Push and spec.Push answer alike, no argument is written, the answer owns its memory; nothing that was in memory is written.
-/
import Derived.Test.YtcmcmhiodkjflaaRows
import Derived.Test.YtcmcmhiodkjflaaJoint1
import Derived.Test.YtcmcmhiodkjflaaJoint3
import Derived.Test.YtcmcmhiodkjflaaJoint5
import Derived.Test.YtcmcmhiodkjflaaJoint7
import Derived.Test.YtcmcmhiodkjflaaJoint11
import Derived.Test.YtcmcmhiodkjflaaJoint12
import Derived.Test.YtcmcmhiodkjflaaJoint15
import Derived.Test.YtcmcmhiodkjflaaJoint26
import Derived.Test.YtcmcmhiodkjflaaJoint44
import Derived.Deep.RegionWith
import Derived.Deep.DeepCutAuto
import Derived.WalkSmall
import Derived.WalkKit
import Derived.ProofKit
import Derived.OpenShut
import Derived.OpenVars
import Derived.Deep.DeepHandedRow
import Derived.Lib.LaidTab
import Derived.Stop.LaidErr
namespace Go.Proofs.Ytcmcmhiodkjflaa.fnExactPush
open Go.ChangeShapes Go.WideShapes Go.ChangeAt Go.ChangeMaps Go.RowKit

set_option maxRecDepth 1000000 in
set_option maxHeartbeats 8000000 in
theorem walk (d : StrD) (hd : d.Fits) (ao : Option Addr) (cap : Nat) (hl : d.late.length ≤ maxLen) (hf : LatesFit d.late) (now : Int) (_hn : (Lit.int .i64 now).wf = true) (w : World) (ha : LatesAt w ao d.late) :
    Calls Try.prog 3 #[.agg #[.int .i64 d.st, .int .i64 d.iss, .int .i64 d.una, .int .i64 d.rcv, .string d.wait, .int .i64 d.sent, .int .i64 d.fin, .bool d.pf, .string d.inn, .slice ao d.late.length cap, .bool d.owe, .int .i64 d.due, .int .i64 d.times], .int .i64 now] w fun e w' => e = .returned (.bool true) ∧ Below w.heap.size w w' := by
  have HA := hid ha
  have X_p := hid (show BlockIs (w.alloc (.cells #[.int .i64 d.st, .int .i64 d.iss, .int .i64 d.una, .int .i64 d.rcv, .string d.wait, .int .i64 d.sent, .int .i64 d.fin, .bool d.pf, .string d.inn, .slice ao d.late.length cap, .bool d.owe, .int .i64 d.due, .int .i64 d.times] 24)) w.heap.size 24 [.int .i64 d.st, .int .i64 d.iss, .int .i64 d.una, .int .i64 d.rcv, .string d.wait, .int .i64 d.sent, .int .i64 d.fin, .bool d.pf, .string d.inn, .slice ao d.late.length cap, .bool d.owe, .int .i64 d.due, .int .i64 d.times] from heap_alloc_new w _)
  have B := hid (below_more (Below.refl w.heap.size w) (.cells #[.int .i64 d.st, .int .i64 d.iss, .int .i64 d.una, .int .i64 d.rcv, .string d.wait, .int .i64 d.sent, .int .i64 d.fin, .bool d.pf, .string d.inn, .slice ao d.late.length cap, .bool d.owe, .int .i64 d.due, .int .i64 d.times] 24))
  have O0 := hid X_p.out.lt
  clear ha
  go_enter Try.func3, Try.ntmps3
  go_wp2_with fail
  refine Calls.mono (szStream_any d ao cap hd hl hf _ (HA.out.on B.out)) ?_
  rintro e w1 ⟨hor, b1⟩
  have O1 := hid b1.size
  have X_p_1 := hid (X_p.out.on b1 X_p.out.lt)
  have B_1 := hid (below_via B.out b1)
  clear b1 X_p B
  have cX_p0_1 := X_p_1.out.cell (j := 0) rfl
  have cX_p1_1 := X_p_1.out.cell (j := 1) rfl
  have cX_p2_1 := X_p_1.out.cell (j := 2) rfl
  have cX_p3_1 := X_p_1.out.cell (j := 3) rfl
  have cX_p4_1 := X_p_1.out.cell (j := 4) rfl
  have cX_p5_1 := X_p_1.out.cell (j := 5) rfl
  have cX_p6_1 := X_p_1.out.cell (j := 6) rfl
  have cX_p7_1 := X_p_1.out.cell (j := 7) rfl
  have cX_p8_1 := X_p_1.out.cell (j := 8) rfl
  have cX_p9_1 := X_p_1.out.cell (j := 9) rfl
  have cX_p10_1 := X_p_1.out.cell (j := 10) rfl
  have cX_p11_1 := X_p_1.out.cell (j := 11) rfl
  have cX_p12_1 := X_p_1.out.cell (j := 12) rfl
  rcases hor with ⟨hneg, rfl⟩ | ⟨hnn, rfl⟩
  · go_wp2
    go_ret
    exact ⟨rfl, B_1.out⟩
  have hl2 := (strSmall hnn).late
  have HSM := hid (strSmall hnn)
  have hnp := strBulk_nonneg d
  clear hf hl
  obtain ⟨SG, hSG⟩ : ∃ y, pushSegs now d = y := ⟨_, rfl⟩
  obtain ⟨D, hF⟩ : ∃ A, pushD now d = A := ⟨_, rfl⟩
  have hA2 : D.late.length ≤ 1048576 := by rw [← hF]; have := pushD_late now d; omega
  have hS2 : SG.length ≤ 26 := by rw [← hSG]; exact pushSegs_length now d
  go_wp2_with fail
  refine Calls.mono (toStream_o d ao cap hl2 _ (HA.out.on B_1.out)) ?_
  rintro e w2 ⟨v2, c2, rfl, hc2, h2, b2⟩
  have O2 := hid b2.size
  have Y2 := hid h2
  clear h2 hc2
  have X_p_2 := hid (X_p_1.out.on b2 X_p_1.out.lt)
  have B_2 := hid (below_via B_1.out b2)
  clear b2 X_p_1 B_1 cX_p0_1 cX_p1_1 cX_p2_1 cX_p3_1 cX_p4_1 cX_p5_1 cX_p6_1 cX_p7_1 cX_p8_1 cX_p9_1 cX_p10_1 cX_p11_1 cX_p12_1
  have cX_p0_2 := X_p_2.out.cell (j := 0) rfl
  have cX_p1_2 := X_p_2.out.cell (j := 1) rfl
  have cX_p2_2 := X_p_2.out.cell (j := 2) rfl
  have cX_p3_2 := X_p_2.out.cell (j := 3) rfl
  have cX_p4_2 := X_p_2.out.cell (j := 4) rfl
  have cX_p5_2 := X_p_2.out.cell (j := 5) rfl
  have cX_p6_2 := X_p_2.out.cell (j := 6) rfl
  have cX_p7_2 := X_p_2.out.cell (j := 7) rfl
  have cX_p8_2 := X_p_2.out.cell (j := 8) rfl
  have cX_p9_2 := X_p_2.out.cell (j := 9) rfl
  have cX_p10_2 := X_p_2.out.cell (j := 10) rfl
  have cX_p11_2 := X_p_2.out.cell (j := 11) rfl
  have cX_p12_2 := X_p_2.out.cell (j := 12) rfl
  have CQ := hid (specPush_any d _ c2 HSM.out now _ Y2.out.lates)
  unfold PushDid at CQ
  rw [hF, hSG] at CQ
  go_wp2_with fail
  refine Calls.mono (CQ.out) ?_
  rintro e w3 ⟨v3, c3, u3, q3, rfl, h3, g3, b3⟩
  have O3 := hid b3.size
  have R_w := hid h3
  have G_w := hid g3
  clear h3 g3 CQ
  have X_p_3 := hid (X_p_2.out.on b3 X_p_2.out.lt)
  have B_3 := hid (below_via B_2.out b3)
  have Y2_3 := hid (Y2.out.on b3)
  clear b3 X_p_2 B_2 Y2 cX_p0_2 cX_p1_2 cX_p2_2 cX_p3_2 cX_p4_2 cX_p5_2 cX_p6_2 cX_p7_2 cX_p8_2 cX_p9_2 cX_p10_2 cX_p11_2 cX_p12_2
  have cX_p0_3 := X_p_3.out.cell (j := 0) rfl
  have cX_p1_3 := X_p_3.out.cell (j := 1) rfl
  have cX_p2_3 := X_p_3.out.cell (j := 2) rfl
  have cX_p3_3 := X_p_3.out.cell (j := 3) rfl
  have cX_p4_3 := X_p_3.out.cell (j := 4) rfl
  have cX_p5_3 := X_p_3.out.cell (j := 5) rfl
  have cX_p6_3 := X_p_3.out.cell (j := 6) rfl
  have cX_p7_3 := X_p_3.out.cell (j := 7) rfl
  have cX_p8_3 := X_p_3.out.cell (j := 8) rfl
  have cX_p9_3 := X_p_3.out.cell (j := 9) rfl
  have cX_p10_3 := X_p_3.out.cell (j := 10) rfl
  have cX_p11_3 := X_p_3.out.cell (j := 11) rfl
  have cX_p12_3 := X_p_3.out.cell (j := 12) rfl
  clear Y2_3
  have ba := below_more (Below.refl w3.heap.size w3) (.cells #[.int .i64 D.st, .int .i64 D.iss, .int .i64 D.una, .int .i64 D.rcv, .string D.wait, .int .i64 D.sent, .int .i64 D.fin, .bool D.pf, .string D.inn, .slice v3 D.late.length c3, .bool D.owe, .int .i64 D.due, .int .i64 D.times] 28)
  have hx : BlockIs (w3.alloc (.cells #[.int .i64 D.st, .int .i64 D.iss, .int .i64 D.una, .int .i64 D.rcv, .string D.wait, .int .i64 D.sent, .int .i64 D.fin, .bool D.pf, .string D.inn, .slice v3 D.late.length c3, .bool D.owe, .int .i64 D.due, .int .i64 D.times] 28)) w3.heap.size 28 [.int .i64 D.st, .int .i64 D.iss, .int .i64 D.una, .int .i64 D.rcv, .string D.wait, .int .i64 D.sent, .int .i64 D.fin, .bool D.pf, .string D.inn, .slice v3 D.late.length c3, .bool D.owe, .int .i64 D.due, .int .i64 D.times] := heap_alloc_new w3 _
  have X_p_3a := hid (X_p_3.out.on ba X_p_3.out.lt)
  have B_3a := hid (below_via B_3.out ba)
  have G_w_3a := hid (G_w.out.on ba)
  have R_w_3a := hid (R_w.out.on ba)
  have X_w_3a := hid hx
  have O3a := hid hx.lt
  clear ba hx X_p_3 B_3 G_w R_w
  have cX_p0_3a := X_p_3a.out.cell (j := 0) rfl
  have cX_p1_3a := X_p_3a.out.cell (j := 1) rfl
  have cX_p2_3a := X_p_3a.out.cell (j := 2) rfl
  have cX_p3_3a := X_p_3a.out.cell (j := 3) rfl
  have cX_p4_3a := X_p_3a.out.cell (j := 4) rfl
  have cX_p5_3a := X_p_3a.out.cell (j := 5) rfl
  have cX_p6_3a := X_p_3a.out.cell (j := 6) rfl
  have cX_p7_3a := X_p_3a.out.cell (j := 7) rfl
  have cX_p8_3a := X_p_3a.out.cell (j := 8) rfl
  have cX_p9_3a := X_p_3a.out.cell (j := 9) rfl
  have cX_p10_3a := X_p_3a.out.cell (j := 10) rfl
  have cX_p11_3a := X_p_3a.out.cell (j := 11) rfl
  have cX_p12_3a := X_p_3a.out.cell (j := 12) rfl
  have cX_w0_3a := X_w_3a.out.cell (j := 0) rfl
  have cX_w1_3a := X_w_3a.out.cell (j := 1) rfl
  have cX_w2_3a := X_w_3a.out.cell (j := 2) rfl
  have cX_w3_3a := X_w_3a.out.cell (j := 3) rfl
  have cX_w4_3a := X_w_3a.out.cell (j := 4) rfl
  have cX_w5_3a := X_w_3a.out.cell (j := 5) rfl
  have cX_w6_3a := X_w_3a.out.cell (j := 6) rfl
  have cX_w7_3a := X_w_3a.out.cell (j := 7) rfl
  have cX_w8_3a := X_w_3a.out.cell (j := 8) rfl
  have cX_w9_3a := X_w_3a.out.cell (j := 9) rfl
  have cX_w10_3a := X_w_3a.out.cell (j := 10) rfl
  have cX_w11_3a := X_w_3a.out.cell (j := 11) rfl
  have cX_w12_3a := X_w_3a.out.cell (j := 12) rfl
  go_wp2_with fail
  refine Calls.mono (toStream_o d ao cap hl2 _ (HA.out.on B_3a.out)) ?_
  rintro e w4 ⟨v4, c4, rfl, hc4, h4, b4⟩
  have O4 := hid b4.size
  have Y4 := hid h4
  clear h4 hc4
  have X_p_4 := hid (X_p_3a.out.on b4 X_p_3a.out.lt)
  have B_4 := hid (below_via B_3a.out b4)
  have G_w_4 := hid (G_w_3a.out.on b4)
  have R_w_4 := hid (R_w_3a.out.on b4)
  have X_w_4 := hid (X_w_3a.out.on b4 X_w_3a.out.lt)
  clear b4 X_p_3a B_3a G_w_3a R_w_3a X_w_3a cX_p0_3a cX_p1_3a cX_p2_3a cX_p3_3a cX_p4_3a cX_p5_3a cX_p6_3a cX_p7_3a cX_p8_3a cX_p9_3a cX_p10_3a cX_p11_3a cX_p12_3a cX_w0_3a cX_w1_3a cX_w2_3a cX_w3_3a cX_w4_3a cX_w5_3a cX_w6_3a cX_w7_3a cX_w8_3a cX_w9_3a cX_w10_3a cX_w11_3a cX_w12_3a cX_p0_3 cX_p1_3 cX_p2_3 cX_p3_3 cX_p4_3 cX_p5_3 cX_p6_3 cX_p7_3 cX_p8_3 cX_p9_3 cX_p10_3 cX_p11_3 cX_p12_3
  have cX_p0_4 := X_p_4.out.cell (j := 0) rfl
  have cX_p1_4 := X_p_4.out.cell (j := 1) rfl
  have cX_p2_4 := X_p_4.out.cell (j := 2) rfl
  have cX_p3_4 := X_p_4.out.cell (j := 3) rfl
  have cX_p4_4 := X_p_4.out.cell (j := 4) rfl
  have cX_p5_4 := X_p_4.out.cell (j := 5) rfl
  have cX_p6_4 := X_p_4.out.cell (j := 6) rfl
  have cX_p7_4 := X_p_4.out.cell (j := 7) rfl
  have cX_p8_4 := X_p_4.out.cell (j := 8) rfl
  have cX_p9_4 := X_p_4.out.cell (j := 9) rfl
  have cX_p10_4 := X_p_4.out.cell (j := 10) rfl
  have cX_p11_4 := X_p_4.out.cell (j := 11) rfl
  have cX_p12_4 := X_p_4.out.cell (j := 12) rfl
  have cX_w0_4 := X_w_4.out.cell (j := 0) rfl
  have cX_w1_4 := X_w_4.out.cell (j := 1) rfl
  have cX_w2_4 := X_w_4.out.cell (j := 2) rfl
  have cX_w3_4 := X_w_4.out.cell (j := 3) rfl
  have cX_w4_4 := X_w_4.out.cell (j := 4) rfl
  have cX_w5_4 := X_w_4.out.cell (j := 5) rfl
  have cX_w6_4 := X_w_4.out.cell (j := 6) rfl
  have cX_w7_4 := X_w_4.out.cell (j := 7) rfl
  have cX_w8_4 := X_w_4.out.cell (j := 8) rfl
  have cX_w9_4 := X_w_4.out.cell (j := 9) rfl
  have cX_w10_4 := X_w_4.out.cell (j := 10) rfl
  have cX_w11_4 := X_w_4.out.cell (j := 11) rfl
  have cX_w12_4 := X_w_4.out.cell (j := 12) rfl
  have ba := below_more (Below.refl w4.heap.size w4) (.cells #[.int .i64 d.st, .int .i64 d.iss, .int .i64 d.una, .int .i64 d.rcv, .string d.wait, .int .i64 d.sent, .int .i64 d.fin, .bool d.pf, .string d.inn, .slice v4 d.late.length c4, .bool d.owe, .int .i64 d.due, .int .i64 d.times] 28)
  have hx : BlockIs (w4.alloc (.cells #[.int .i64 d.st, .int .i64 d.iss, .int .i64 d.una, .int .i64 d.rcv, .string d.wait, .int .i64 d.sent, .int .i64 d.fin, .bool d.pf, .string d.inn, .slice v4 d.late.length c4, .bool d.owe, .int .i64 d.due, .int .i64 d.times] 28)) w4.heap.size 28 [.int .i64 d.st, .int .i64 d.iss, .int .i64 d.una, .int .i64 d.rcv, .string d.wait, .int .i64 d.sent, .int .i64 d.fin, .bool d.pf, .string d.inn, .slice v4 d.late.length c4, .bool d.owe, .int .i64 d.due, .int .i64 d.times] := heap_alloc_new w4 _
  have X_p_4a := hid (X_p_4.out.on ba X_p_4.out.lt)
  have B_4a := hid (below_via B_4.out ba)
  have G_w_4a := hid (G_w_4.out.on ba)
  have R_w_4a := hid (R_w_4.out.on ba)
  have X_w_4a := hid (X_w_4.out.on ba X_w_4.out.lt)
  have Y4_4a := hid (Y4.out.on ba)
  have X_x_4a := hid hx
  have O4a := hid hx.lt
  clear ba hx X_p_4 B_4 G_w_4 R_w_4 X_w_4 Y4
  have cX_p0_4a := X_p_4a.out.cell (j := 0) rfl
  have cX_p1_4a := X_p_4a.out.cell (j := 1) rfl
  have cX_p2_4a := X_p_4a.out.cell (j := 2) rfl
  have cX_p3_4a := X_p_4a.out.cell (j := 3) rfl
  have cX_p4_4a := X_p_4a.out.cell (j := 4) rfl
  have cX_p5_4a := X_p_4a.out.cell (j := 5) rfl
  have cX_p6_4a := X_p_4a.out.cell (j := 6) rfl
  have cX_p7_4a := X_p_4a.out.cell (j := 7) rfl
  have cX_p8_4a := X_p_4a.out.cell (j := 8) rfl
  have cX_p9_4a := X_p_4a.out.cell (j := 9) rfl
  have cX_p10_4a := X_p_4a.out.cell (j := 10) rfl
  have cX_p11_4a := X_p_4a.out.cell (j := 11) rfl
  have cX_p12_4a := X_p_4a.out.cell (j := 12) rfl
  have cX_w0_4a := X_w_4a.out.cell (j := 0) rfl
  have cX_w1_4a := X_w_4a.out.cell (j := 1) rfl
  have cX_w2_4a := X_w_4a.out.cell (j := 2) rfl
  have cX_w3_4a := X_w_4a.out.cell (j := 3) rfl
  have cX_w4_4a := X_w_4a.out.cell (j := 4) rfl
  have cX_w5_4a := X_w_4a.out.cell (j := 5) rfl
  have cX_w6_4a := X_w_4a.out.cell (j := 6) rfl
  have cX_w7_4a := X_w_4a.out.cell (j := 7) rfl
  have cX_w8_4a := X_w_4a.out.cell (j := 8) rfl
  have cX_w9_4a := X_w_4a.out.cell (j := 9) rfl
  have cX_w10_4a := X_w_4a.out.cell (j := 10) rfl
  have cX_w11_4a := X_w_4a.out.cell (j := 11) rfl
  have cX_w12_4a := X_w_4a.out.cell (j := 12) rfl
  have cX_x0_4a := X_x_4a.out.cell (j := 0) rfl
  have cX_x1_4a := X_x_4a.out.cell (j := 1) rfl
  have cX_x2_4a := X_x_4a.out.cell (j := 2) rfl
  have cX_x3_4a := X_x_4a.out.cell (j := 3) rfl
  have cX_x4_4a := X_x_4a.out.cell (j := 4) rfl
  have cX_x5_4a := X_x_4a.out.cell (j := 5) rfl
  have cX_x6_4a := X_x_4a.out.cell (j := 6) rfl
  have cX_x7_4a := X_x_4a.out.cell (j := 7) rfl
  have cX_x8_4a := X_x_4a.out.cell (j := 8) rfl
  have cX_x9_4a := X_x_4a.out.cell (j := 9) rfl
  have cX_x10_4a := X_x_4a.out.cell (j := 10) rfl
  have cX_x11_4a := X_x_4a.out.cell (j := 11) rfl
  have cX_x12_4a := X_x_4a.out.cell (j := 12) rfl
  have CQ := hid (implPush_any d _ c4 HSM.out now _ Y4_4a.out.lates)
  unfold PushDid at CQ
  rw [hF, hSG] at CQ
  go_wp2_with fail
  refine Calls.mono (CQ.out) ?_
  rintro e w5 ⟨v5, c5, u5, q5, rfl, h5, g5, b5⟩
  have O5 := hid b5.size
  have R_g := hid h5
  have G_g := hid g5
  clear h5 g5 CQ
  have X_p_5 := hid (X_p_4a.out.on b5 X_p_4a.out.lt)
  have B_5 := hid (below_via B_4a.out b5)
  have G_w_5 := hid (G_w_4a.out.on b5)
  have R_w_5 := hid (R_w_4a.out.on b5)
  have X_w_5 := hid (X_w_4a.out.on b5 X_w_4a.out.lt)
  have Y4_5 := hid (Y4_4a.out.on b5)
  have X_x_5 := hid (X_x_4a.out.on b5 X_x_4a.out.lt)
  clear b5 X_p_4a B_4a G_w_4a R_w_4a X_w_4a Y4_4a X_x_4a cX_p0_4a cX_p1_4a cX_p2_4a cX_p3_4a cX_p4_4a cX_p5_4a cX_p6_4a cX_p7_4a cX_p8_4a cX_p9_4a cX_p10_4a cX_p11_4a cX_p12_4a cX_w0_4a cX_w1_4a cX_w2_4a cX_w3_4a cX_w4_4a cX_w5_4a cX_w6_4a cX_w7_4a cX_w8_4a cX_w9_4a cX_w10_4a cX_w11_4a cX_w12_4a cX_x0_4a cX_x1_4a cX_x2_4a cX_x3_4a cX_x4_4a cX_x5_4a cX_x6_4a cX_x7_4a cX_x8_4a cX_x9_4a cX_x10_4a cX_x11_4a cX_x12_4a cX_p0_4 cX_p1_4 cX_p2_4 cX_p3_4 cX_p4_4 cX_p5_4 cX_p6_4 cX_p7_4 cX_p8_4 cX_p9_4 cX_p10_4 cX_p11_4 cX_p12_4 cX_w0_4 cX_w1_4 cX_w2_4 cX_w3_4 cX_w4_4 cX_w5_4 cX_w6_4 cX_w7_4 cX_w8_4 cX_w9_4 cX_w10_4 cX_w11_4 cX_w12_4
  have cX_p0_5 := X_p_5.out.cell (j := 0) rfl
  have cX_p1_5 := X_p_5.out.cell (j := 1) rfl
  have cX_p2_5 := X_p_5.out.cell (j := 2) rfl
  have cX_p3_5 := X_p_5.out.cell (j := 3) rfl
  have cX_p4_5 := X_p_5.out.cell (j := 4) rfl
  have cX_p5_5 := X_p_5.out.cell (j := 5) rfl
  have cX_p6_5 := X_p_5.out.cell (j := 6) rfl
  have cX_p7_5 := X_p_5.out.cell (j := 7) rfl
  have cX_p8_5 := X_p_5.out.cell (j := 8) rfl
  have cX_p9_5 := X_p_5.out.cell (j := 9) rfl
  have cX_p10_5 := X_p_5.out.cell (j := 10) rfl
  have cX_p11_5 := X_p_5.out.cell (j := 11) rfl
  have cX_p12_5 := X_p_5.out.cell (j := 12) rfl
  have cX_w0_5 := X_w_5.out.cell (j := 0) rfl
  have cX_w1_5 := X_w_5.out.cell (j := 1) rfl
  have cX_w2_5 := X_w_5.out.cell (j := 2) rfl
  have cX_w3_5 := X_w_5.out.cell (j := 3) rfl
  have cX_w4_5 := X_w_5.out.cell (j := 4) rfl
  have cX_w5_5 := X_w_5.out.cell (j := 5) rfl
  have cX_w6_5 := X_w_5.out.cell (j := 6) rfl
  have cX_w7_5 := X_w_5.out.cell (j := 7) rfl
  have cX_w8_5 := X_w_5.out.cell (j := 8) rfl
  have cX_w9_5 := X_w_5.out.cell (j := 9) rfl
  have cX_w10_5 := X_w_5.out.cell (j := 10) rfl
  have cX_w11_5 := X_w_5.out.cell (j := 11) rfl
  have cX_w12_5 := X_w_5.out.cell (j := 12) rfl
  have cX_x0_5 := X_x_5.out.cell (j := 0) rfl
  have cX_x1_5 := X_x_5.out.cell (j := 1) rfl
  have cX_x2_5 := X_x_5.out.cell (j := 2) rfl
  have cX_x3_5 := X_x_5.out.cell (j := 3) rfl
  have cX_x4_5 := X_x_5.out.cell (j := 4) rfl
  have cX_x5_5 := X_x_5.out.cell (j := 5) rfl
  have cX_x6_5 := X_x_5.out.cell (j := 6) rfl
  have cX_x7_5 := X_x_5.out.cell (j := 7) rfl
  have cX_x8_5 := X_x_5.out.cell (j := 8) rfl
  have cX_x9_5 := X_x_5.out.cell (j := 9) rfl
  have cX_x10_5 := X_x_5.out.cell (j := 10) rfl
  have cX_x11_5 := X_x_5.out.cell (j := 11) rfl
  have cX_x12_5 := X_x_5.out.cell (j := 12) rfl
  have ba := below_more (Below.refl w5.heap.size w5) (.cells #[.int .i64 D.st, .int .i64 D.iss, .int .i64 D.una, .int .i64 D.rcv, .string D.wait, .int .i64 D.sent, .int .i64 D.fin, .bool D.pf, .string D.inn, .slice v5 D.late.length c5, .bool D.owe, .int .i64 D.due, .int .i64 D.times] 28)
  have hx : BlockIs (w5.alloc (.cells #[.int .i64 D.st, .int .i64 D.iss, .int .i64 D.una, .int .i64 D.rcv, .string D.wait, .int .i64 D.sent, .int .i64 D.fin, .bool D.pf, .string D.inn, .slice v5 D.late.length c5, .bool D.owe, .int .i64 D.due, .int .i64 D.times] 28)) w5.heap.size 28 [.int .i64 D.st, .int .i64 D.iss, .int .i64 D.una, .int .i64 D.rcv, .string D.wait, .int .i64 D.sent, .int .i64 D.fin, .bool D.pf, .string D.inn, .slice v5 D.late.length c5, .bool D.owe, .int .i64 D.due, .int .i64 D.times] := heap_alloc_new w5 _
  have X_p_5a := hid (X_p_5.out.on ba X_p_5.out.lt)
  have B_5a := hid (below_via B_5.out ba)
  have G_w_5a := hid (G_w_5.out.on ba)
  have R_w_5a := hid (R_w_5.out.on ba)
  have X_w_5a := hid (X_w_5.out.on ba X_w_5.out.lt)
  have Y4_5a := hid (Y4_5.out.on ba)
  have X_x_5a := hid (X_x_5.out.on ba X_x_5.out.lt)
  have G_g_5a := hid (G_g.out.on ba)
  have R_g_5a := hid (R_g.out.on ba)
  have X_g_5a := hid hx
  have O5a := hid hx.lt
  clear ba hx X_p_5 B_5 G_w_5 R_w_5 X_w_5 Y4_5 X_x_5 G_g R_g
  have cX_p0_5a := X_p_5a.out.cell (j := 0) rfl
  have cX_p1_5a := X_p_5a.out.cell (j := 1) rfl
  have cX_p2_5a := X_p_5a.out.cell (j := 2) rfl
  have cX_p3_5a := X_p_5a.out.cell (j := 3) rfl
  have cX_p4_5a := X_p_5a.out.cell (j := 4) rfl
  have cX_p5_5a := X_p_5a.out.cell (j := 5) rfl
  have cX_p6_5a := X_p_5a.out.cell (j := 6) rfl
  have cX_p7_5a := X_p_5a.out.cell (j := 7) rfl
  have cX_p8_5a := X_p_5a.out.cell (j := 8) rfl
  have cX_p9_5a := X_p_5a.out.cell (j := 9) rfl
  have cX_p10_5a := X_p_5a.out.cell (j := 10) rfl
  have cX_p11_5a := X_p_5a.out.cell (j := 11) rfl
  have cX_p12_5a := X_p_5a.out.cell (j := 12) rfl
  have cX_w0_5a := X_w_5a.out.cell (j := 0) rfl
  have cX_w1_5a := X_w_5a.out.cell (j := 1) rfl
  have cX_w2_5a := X_w_5a.out.cell (j := 2) rfl
  have cX_w3_5a := X_w_5a.out.cell (j := 3) rfl
  have cX_w4_5a := X_w_5a.out.cell (j := 4) rfl
  have cX_w5_5a := X_w_5a.out.cell (j := 5) rfl
  have cX_w6_5a := X_w_5a.out.cell (j := 6) rfl
  have cX_w7_5a := X_w_5a.out.cell (j := 7) rfl
  have cX_w8_5a := X_w_5a.out.cell (j := 8) rfl
  have cX_w9_5a := X_w_5a.out.cell (j := 9) rfl
  have cX_w10_5a := X_w_5a.out.cell (j := 10) rfl
  have cX_w11_5a := X_w_5a.out.cell (j := 11) rfl
  have cX_w12_5a := X_w_5a.out.cell (j := 12) rfl
  have cX_x0_5a := X_x_5a.out.cell (j := 0) rfl
  have cX_x1_5a := X_x_5a.out.cell (j := 1) rfl
  have cX_x2_5a := X_x_5a.out.cell (j := 2) rfl
  have cX_x3_5a := X_x_5a.out.cell (j := 3) rfl
  have cX_x4_5a := X_x_5a.out.cell (j := 4) rfl
  have cX_x5_5a := X_x_5a.out.cell (j := 5) rfl
  have cX_x6_5a := X_x_5a.out.cell (j := 6) rfl
  have cX_x7_5a := X_x_5a.out.cell (j := 7) rfl
  have cX_x8_5a := X_x_5a.out.cell (j := 8) rfl
  have cX_x9_5a := X_x_5a.out.cell (j := 9) rfl
  have cX_x10_5a := X_x_5a.out.cell (j := 10) rfl
  have cX_x11_5a := X_x_5a.out.cell (j := 11) rfl
  have cX_x12_5a := X_x_5a.out.cell (j := 12) rfl
  have cX_g0_5a := X_g_5a.out.cell (j := 0) rfl
  have cX_g1_5a := X_g_5a.out.cell (j := 1) rfl
  have cX_g2_5a := X_g_5a.out.cell (j := 2) rfl
  have cX_g3_5a := X_g_5a.out.cell (j := 3) rfl
  have cX_g4_5a := X_g_5a.out.cell (j := 4) rfl
  have cX_g5_5a := X_g_5a.out.cell (j := 5) rfl
  have cX_g6_5a := X_g_5a.out.cell (j := 6) rfl
  have cX_g7_5a := X_g_5a.out.cell (j := 7) rfl
  have cX_g8_5a := X_g_5a.out.cell (j := 8) rfl
  have cX_g9_5a := X_g_5a.out.cell (j := 9) rfl
  have cX_g10_5a := X_g_5a.out.cell (j := 10) rfl
  have cX_g11_5a := X_g_5a.out.cell (j := 11) rfl
  have cX_g12_5a := X_g_5a.out.cell (j := 12) rfl
  go_wp2_with fail
  refine Calls.mono (eqStream_same D v5 v3 c5 c3 (by omega) _ R_g_5a.out.lates R_w_5a.out.lates) ?_
  rintro e w6 ⟨rfl, b6⟩
  have O6 := hid b6.size
  have X_p_6 := hid (X_p_5a.out.on b6 X_p_5a.out.lt)
  have B_6 := hid (below_via B_5a.out b6)
  have G_w_6 := hid (G_w_5a.out.on b6)
  have R_w_6 := hid (R_w_5a.out.on b6)
  have X_w_6 := hid (X_w_5a.out.on b6 X_w_5a.out.lt)
  have Y4_6 := hid (Y4_5a.out.on b6)
  have X_x_6 := hid (X_x_5a.out.on b6 X_x_5a.out.lt)
  have G_g_6 := hid (G_g_5a.out.on b6)
  have R_g_6 := hid (R_g_5a.out.on b6)
  have X_g_6 := hid (X_g_5a.out.on b6 X_g_5a.out.lt)
  clear b6 X_p_5a B_5a G_w_5a R_w_5a X_w_5a Y4_5a X_x_5a G_g_5a R_g_5a X_g_5a cX_p0_5a cX_p1_5a cX_p2_5a cX_p3_5a cX_p4_5a cX_p5_5a cX_p6_5a cX_p7_5a cX_p8_5a cX_p9_5a cX_p10_5a cX_p11_5a cX_p12_5a cX_w0_5a cX_w1_5a cX_w2_5a cX_w3_5a cX_w4_5a cX_w5_5a cX_w6_5a cX_w7_5a cX_w8_5a cX_w9_5a cX_w10_5a cX_w11_5a cX_w12_5a cX_x0_5a cX_x1_5a cX_x2_5a cX_x3_5a cX_x4_5a cX_x5_5a cX_x6_5a cX_x7_5a cX_x8_5a cX_x9_5a cX_x10_5a cX_x11_5a cX_x12_5a cX_g0_5a cX_g1_5a cX_g2_5a cX_g3_5a cX_g4_5a cX_g5_5a cX_g6_5a cX_g7_5a cX_g8_5a cX_g9_5a cX_g10_5a cX_g11_5a cX_g12_5a cX_p0_5 cX_p1_5 cX_p2_5 cX_p3_5 cX_p4_5 cX_p5_5 cX_p6_5 cX_p7_5 cX_p8_5 cX_p9_5 cX_p10_5 cX_p11_5 cX_p12_5 cX_w0_5 cX_w1_5 cX_w2_5 cX_w3_5 cX_w4_5 cX_w5_5 cX_w6_5 cX_w7_5 cX_w8_5 cX_w9_5 cX_w10_5 cX_w11_5 cX_w12_5 cX_x0_5 cX_x1_5 cX_x2_5 cX_x3_5 cX_x4_5 cX_x5_5 cX_x6_5 cX_x7_5 cX_x8_5 cX_x9_5 cX_x10_5 cX_x11_5 cX_x12_5
  have cX_p0_6 := X_p_6.out.cell (j := 0) rfl
  have cX_p1_6 := X_p_6.out.cell (j := 1) rfl
  have cX_p2_6 := X_p_6.out.cell (j := 2) rfl
  have cX_p3_6 := X_p_6.out.cell (j := 3) rfl
  have cX_p4_6 := X_p_6.out.cell (j := 4) rfl
  have cX_p5_6 := X_p_6.out.cell (j := 5) rfl
  have cX_p6_6 := X_p_6.out.cell (j := 6) rfl
  have cX_p7_6 := X_p_6.out.cell (j := 7) rfl
  have cX_p8_6 := X_p_6.out.cell (j := 8) rfl
  have cX_p9_6 := X_p_6.out.cell (j := 9) rfl
  have cX_p10_6 := X_p_6.out.cell (j := 10) rfl
  have cX_p11_6 := X_p_6.out.cell (j := 11) rfl
  have cX_p12_6 := X_p_6.out.cell (j := 12) rfl
  have cX_w0_6 := X_w_6.out.cell (j := 0) rfl
  have cX_w1_6 := X_w_6.out.cell (j := 1) rfl
  have cX_w2_6 := X_w_6.out.cell (j := 2) rfl
  have cX_w3_6 := X_w_6.out.cell (j := 3) rfl
  have cX_w4_6 := X_w_6.out.cell (j := 4) rfl
  have cX_w5_6 := X_w_6.out.cell (j := 5) rfl
  have cX_w6_6 := X_w_6.out.cell (j := 6) rfl
  have cX_w7_6 := X_w_6.out.cell (j := 7) rfl
  have cX_w8_6 := X_w_6.out.cell (j := 8) rfl
  have cX_w9_6 := X_w_6.out.cell (j := 9) rfl
  have cX_w10_6 := X_w_6.out.cell (j := 10) rfl
  have cX_w11_6 := X_w_6.out.cell (j := 11) rfl
  have cX_w12_6 := X_w_6.out.cell (j := 12) rfl
  have cX_x0_6 := X_x_6.out.cell (j := 0) rfl
  have cX_x1_6 := X_x_6.out.cell (j := 1) rfl
  have cX_x2_6 := X_x_6.out.cell (j := 2) rfl
  have cX_x3_6 := X_x_6.out.cell (j := 3) rfl
  have cX_x4_6 := X_x_6.out.cell (j := 4) rfl
  have cX_x5_6 := X_x_6.out.cell (j := 5) rfl
  have cX_x6_6 := X_x_6.out.cell (j := 6) rfl
  have cX_x7_6 := X_x_6.out.cell (j := 7) rfl
  have cX_x8_6 := X_x_6.out.cell (j := 8) rfl
  have cX_x9_6 := X_x_6.out.cell (j := 9) rfl
  have cX_x10_6 := X_x_6.out.cell (j := 10) rfl
  have cX_x11_6 := X_x_6.out.cell (j := 11) rfl
  have cX_x12_6 := X_x_6.out.cell (j := 12) rfl
  have cX_g0_6 := X_g_6.out.cell (j := 0) rfl
  have cX_g1_6 := X_g_6.out.cell (j := 1) rfl
  have cX_g2_6 := X_g_6.out.cell (j := 2) rfl
  have cX_g3_6 := X_g_6.out.cell (j := 3) rfl
  have cX_g4_6 := X_g_6.out.cell (j := 4) rfl
  have cX_g5_6 := X_g_6.out.cell (j := 5) rfl
  have cX_g6_6 := X_g_6.out.cell (j := 6) rfl
  have cX_g7_6 := X_g_6.out.cell (j := 7) rfl
  have cX_g8_6 := X_g_6.out.cell (j := 8) rfl
  have cX_g9_6 := X_g_6.out.cell (j := 9) rfl
  have cX_g10_6 := X_g_6.out.cell (j := 10) rfl
  have cX_g11_6 := X_g_6.out.cell (j := 11) rfl
  have cX_g12_6 := X_g_6.out.cell (j := 12) rfl
  go_wp2_with fail
  refine Calls.mono (eqSegS_same u5 u3 SG q5 q3 (by omega) _ (G_g_6.out.segs rfl) (G_w_6.out.segs rfl)) ?_
  rintro e w7 ⟨rfl, b7⟩
  have O7 := hid b7.size
  have X_p_7 := hid (X_p_6.out.on b7 X_p_6.out.lt)
  have B_7 := hid (below_via B_6.out b7)
  have G_w_7 := hid (G_w_6.out.on b7)
  have R_w_7 := hid (R_w_6.out.on b7)
  have X_w_7 := hid (X_w_6.out.on b7 X_w_6.out.lt)
  have Y4_7 := hid (Y4_6.out.on b7)
  have X_x_7 := hid (X_x_6.out.on b7 X_x_6.out.lt)
  have G_g_7 := hid (G_g_6.out.on b7)
  have R_g_7 := hid (R_g_6.out.on b7)
  have X_g_7 := hid (X_g_6.out.on b7 X_g_6.out.lt)
  clear b7 X_p_6 B_6 G_w_6 R_w_6 X_w_6 Y4_6 X_x_6 G_g_6 R_g_6 X_g_6 cX_p0_6 cX_p1_6 cX_p2_6 cX_p3_6 cX_p4_6 cX_p5_6 cX_p6_6 cX_p7_6 cX_p8_6 cX_p9_6 cX_p10_6 cX_p11_6 cX_p12_6 cX_w0_6 cX_w1_6 cX_w2_6 cX_w3_6 cX_w4_6 cX_w5_6 cX_w6_6 cX_w7_6 cX_w8_6 cX_w9_6 cX_w10_6 cX_w11_6 cX_w12_6 cX_x0_6 cX_x1_6 cX_x2_6 cX_x3_6 cX_x4_6 cX_x5_6 cX_x6_6 cX_x7_6 cX_x8_6 cX_x9_6 cX_x10_6 cX_x11_6 cX_x12_6 cX_g0_6 cX_g1_6 cX_g2_6 cX_g3_6 cX_g4_6 cX_g5_6 cX_g6_6 cX_g7_6 cX_g8_6 cX_g9_6 cX_g10_6 cX_g11_6 cX_g12_6
  have cX_p0_7 := X_p_7.out.cell (j := 0) rfl
  have cX_p1_7 := X_p_7.out.cell (j := 1) rfl
  have cX_p2_7 := X_p_7.out.cell (j := 2) rfl
  have cX_p3_7 := X_p_7.out.cell (j := 3) rfl
  have cX_p4_7 := X_p_7.out.cell (j := 4) rfl
  have cX_p5_7 := X_p_7.out.cell (j := 5) rfl
  have cX_p6_7 := X_p_7.out.cell (j := 6) rfl
  have cX_p7_7 := X_p_7.out.cell (j := 7) rfl
  have cX_p8_7 := X_p_7.out.cell (j := 8) rfl
  have cX_p9_7 := X_p_7.out.cell (j := 9) rfl
  have cX_p10_7 := X_p_7.out.cell (j := 10) rfl
  have cX_p11_7 := X_p_7.out.cell (j := 11) rfl
  have cX_p12_7 := X_p_7.out.cell (j := 12) rfl
  have cX_w0_7 := X_w_7.out.cell (j := 0) rfl
  have cX_w1_7 := X_w_7.out.cell (j := 1) rfl
  have cX_w2_7 := X_w_7.out.cell (j := 2) rfl
  have cX_w3_7 := X_w_7.out.cell (j := 3) rfl
  have cX_w4_7 := X_w_7.out.cell (j := 4) rfl
  have cX_w5_7 := X_w_7.out.cell (j := 5) rfl
  have cX_w6_7 := X_w_7.out.cell (j := 6) rfl
  have cX_w7_7 := X_w_7.out.cell (j := 7) rfl
  have cX_w8_7 := X_w_7.out.cell (j := 8) rfl
  have cX_w9_7 := X_w_7.out.cell (j := 9) rfl
  have cX_w10_7 := X_w_7.out.cell (j := 10) rfl
  have cX_w11_7 := X_w_7.out.cell (j := 11) rfl
  have cX_w12_7 := X_w_7.out.cell (j := 12) rfl
  have cX_x0_7 := X_x_7.out.cell (j := 0) rfl
  have cX_x1_7 := X_x_7.out.cell (j := 1) rfl
  have cX_x2_7 := X_x_7.out.cell (j := 2) rfl
  have cX_x3_7 := X_x_7.out.cell (j := 3) rfl
  have cX_x4_7 := X_x_7.out.cell (j := 4) rfl
  have cX_x5_7 := X_x_7.out.cell (j := 5) rfl
  have cX_x6_7 := X_x_7.out.cell (j := 6) rfl
  have cX_x7_7 := X_x_7.out.cell (j := 7) rfl
  have cX_x8_7 := X_x_7.out.cell (j := 8) rfl
  have cX_x9_7 := X_x_7.out.cell (j := 9) rfl
  have cX_x10_7 := X_x_7.out.cell (j := 10) rfl
  have cX_x11_7 := X_x_7.out.cell (j := 11) rfl
  have cX_x12_7 := X_x_7.out.cell (j := 12) rfl
  have cX_g0_7 := X_g_7.out.cell (j := 0) rfl
  have cX_g1_7 := X_g_7.out.cell (j := 1) rfl
  have cX_g2_7 := X_g_7.out.cell (j := 2) rfl
  have cX_g3_7 := X_g_7.out.cell (j := 3) rfl
  have cX_g4_7 := X_g_7.out.cell (j := 4) rfl
  have cX_g5_7 := X_g_7.out.cell (j := 5) rfl
  have cX_g6_7 := X_g_7.out.cell (j := 6) rfl
  have cX_g7_7 := X_g_7.out.cell (j := 7) rfl
  have cX_g8_7 := X_g_7.out.cell (j := 8) rfl
  have cX_g9_7 := X_g_7.out.cell (j := 9) rfl
  have cX_g10_7 := X_g_7.out.cell (j := 10) rfl
  have cX_g11_7 := X_g_7.out.cell (j := 11) rfl
  have cX_g12_7 := X_g_7.out.cell (j := 12) rfl
  have CT : Hid (Calls Try.prog 7 #[.agg #[.int .i64 d.st, .int .i64 d.iss, .int .i64 d.una, .int .i64 d.rcv, .string d.wait, .int .i64 d.sent, .int .i64 d.fin, .bool d.pf, .string d.inn, .slice ao d.late.length cap, .bool d.owe, .int .i64 d.due, .int .i64 d.times]] w7.drew fun e w8 => ∃ v8 c8, e = .returned (.agg #[.int .i64 d.st, .int .i64 d.iss, .int .i64 d.una, .int .i64 d.rcv, .string d.wait, .int .i64 d.sent, .int .i64 d.fin, .bool d.pf, .string d.inn, .slice v8 d.late.length c8, .bool d.owe, .int .i64 d.due, .int .i64 d.times]) ∧ (w8.cell? ⟨w4.heap.size, 0, none⟩ = some (.int .i64 d.st) ∧ w8.cell? ⟨w4.heap.size, 1, none⟩ = some (.int .i64 d.iss) ∧ w8.cell? ⟨w4.heap.size, 2, none⟩ = some (.int .i64 d.una) ∧ w8.cell? ⟨w4.heap.size, 3, none⟩ = some (.int .i64 d.rcv) ∧ w8.cell? ⟨w4.heap.size, 4, none⟩ = some (.string d.wait) ∧ w8.cell? ⟨w4.heap.size, 5, none⟩ = some (.int .i64 d.sent) ∧ w8.cell? ⟨w4.heap.size, 6, none⟩ = some (.int .i64 d.fin) ∧ w8.cell? ⟨w4.heap.size, 7, none⟩ = some (.bool d.pf) ∧ w8.cell? ⟨w4.heap.size, 8, none⟩ = some (.string d.inn) ∧ w8.cell? ⟨w4.heap.size, 9, none⟩ = some (.slice v4 d.late.length c4) ∧ w8.cell? ⟨w4.heap.size, 10, none⟩ = some (.bool d.owe) ∧ w8.cell? ⟨w4.heap.size, 11, none⟩ = some (.int .i64 d.due) ∧ w8.cell? ⟨w4.heap.size, 12, none⟩ = some (.int .i64 d.times)) ∧ Hid (Below w7.heap.size w7 w8 ∧ LatesAt w8 v8 d.late)) := by
    have hd : Below w7.heap.size w7 w7.drew := below_drewN (Below.refl _ _) 1
    refine Calls.mono (toStream_o d ao cap hl2 w7.drew (HA.out.on (below_via B_7.out hd))) ?_
    rintro e w8 ⟨v8, c8, rfl, _, h8, b8⟩
    have h67 := below_via hd b8
    have k67 := X_x_7.out.on h67 X_x_7.out.lt
    exact ⟨v8, c8, rfl, ⟨k67.cell (j := 0) rfl, k67.cell (j := 1) rfl, k67.cell (j := 2) rfl, k67.cell (j := 3) rfl, k67.cell (j := 4) rfl, k67.cell (j := 5) rfl, k67.cell (j := 6) rfl, k67.cell (j := 7) rfl, k67.cell (j := 8) rfl, k67.cell (j := 9) rfl, k67.cell (j := 10) rfl, k67.cell (j := 11) rfl, k67.cell (j := 12) rfl⟩, h67, h8.lates⟩
  go_upto_region 10 with fail
  go_cut [50] (fun c wx => c = .bool false ∧ Hid (Below w7.heap.size w7 wx))
  case first =>
    go_region_with (first | (go_at_call 7; refine Calls.mono CT.out ?_; rintro e w8 ⟨v8, c8, rfl, ⟨y0, y1, y2, y3, y4, y5, y6, y7, y8, y9, y10, y11, y12⟩, H8⟩) | (go_at_call 9; refine (eqStream_same d _ _ _ _ (by omega) _ ((Y4_7.out.on H8.out.1).lates) H8.out.2).mono ?_; rintro e w9 ⟨rfl, b9⟩))
    all_goals
      go_wp2_with fail
      go_meet
      exact ⟨rfl, below_via H8.out.1 b9⟩
  case rest =>
    obtain ⟨rfl, HC⟩ := hcut
    have bb := HC.out
    have O9 := hid bb.size
    have X_p_9 := hid (X_p_7.out.on bb X_p_7.out.lt)
    have B_9 := hid (below_via B_7.out bb)
    have G_w_9 := hid (G_w_7.out.on bb)
    have R_w_9 := hid (R_w_7.out.on bb)
    have X_w_9 := hid (X_w_7.out.on bb X_w_7.out.lt)
    have Y4_9 := hid (Y4_7.out.on bb)
    have X_x_9 := hid (X_x_7.out.on bb X_x_7.out.lt)
    have G_g_9 := hid (G_g_7.out.on bb)
    have R_g_9 := hid (R_g_7.out.on bb)
    have X_g_9 := hid (X_g_7.out.on bb X_g_7.out.lt)
    clear bb HC CT X_p_7 B_7 G_w_7 R_w_7 X_w_7 Y4_7 X_x_7 G_g_7 R_g_7 X_g_7 cX_p0_7 cX_p1_7 cX_p2_7 cX_p3_7 cX_p4_7 cX_p5_7 cX_p6_7 cX_p7_7 cX_p8_7 cX_p9_7 cX_p10_7 cX_p11_7 cX_p12_7 cX_w0_7 cX_w1_7 cX_w2_7 cX_w3_7 cX_w4_7 cX_w5_7 cX_w6_7 cX_w7_7 cX_w8_7 cX_w9_7 cX_w10_7 cX_w11_7 cX_w12_7 cX_x0_7 cX_x1_7 cX_x2_7 cX_x3_7 cX_x4_7 cX_x5_7 cX_x6_7 cX_x7_7 cX_x8_7 cX_x9_7 cX_x10_7 cX_x11_7 cX_x12_7 cX_g0_7 cX_g1_7 cX_g2_7 cX_g3_7 cX_g4_7 cX_g5_7 cX_g6_7 cX_g7_7 cX_g8_7 cX_g9_7 cX_g10_7 cX_g11_7 cX_g12_7
    have cX_p0_9 := X_p_9.out.cell (j := 0) rfl
    have cX_p1_9 := X_p_9.out.cell (j := 1) rfl
    have cX_p2_9 := X_p_9.out.cell (j := 2) rfl
    have cX_p3_9 := X_p_9.out.cell (j := 3) rfl
    have cX_p4_9 := X_p_9.out.cell (j := 4) rfl
    have cX_p5_9 := X_p_9.out.cell (j := 5) rfl
    have cX_p6_9 := X_p_9.out.cell (j := 6) rfl
    have cX_p7_9 := X_p_9.out.cell (j := 7) rfl
    have cX_p8_9 := X_p_9.out.cell (j := 8) rfl
    have cX_p9_9 := X_p_9.out.cell (j := 9) rfl
    have cX_p10_9 := X_p_9.out.cell (j := 10) rfl
    have cX_p11_9 := X_p_9.out.cell (j := 11) rfl
    have cX_p12_9 := X_p_9.out.cell (j := 12) rfl
    have cX_w0_9 := X_w_9.out.cell (j := 0) rfl
    have cX_w1_9 := X_w_9.out.cell (j := 1) rfl
    have cX_w2_9 := X_w_9.out.cell (j := 2) rfl
    have cX_w3_9 := X_w_9.out.cell (j := 3) rfl
    have cX_w4_9 := X_w_9.out.cell (j := 4) rfl
    have cX_w5_9 := X_w_9.out.cell (j := 5) rfl
    have cX_w6_9 := X_w_9.out.cell (j := 6) rfl
    have cX_w7_9 := X_w_9.out.cell (j := 7) rfl
    have cX_w8_9 := X_w_9.out.cell (j := 8) rfl
    have cX_w9_9 := X_w_9.out.cell (j := 9) rfl
    have cX_w10_9 := X_w_9.out.cell (j := 10) rfl
    have cX_w11_9 := X_w_9.out.cell (j := 11) rfl
    have cX_w12_9 := X_w_9.out.cell (j := 12) rfl
    have cX_x0_9 := X_x_9.out.cell (j := 0) rfl
    have cX_x1_9 := X_x_9.out.cell (j := 1) rfl
    have cX_x2_9 := X_x_9.out.cell (j := 2) rfl
    have cX_x3_9 := X_x_9.out.cell (j := 3) rfl
    have cX_x4_9 := X_x_9.out.cell (j := 4) rfl
    have cX_x5_9 := X_x_9.out.cell (j := 5) rfl
    have cX_x6_9 := X_x_9.out.cell (j := 6) rfl
    have cX_x7_9 := X_x_9.out.cell (j := 7) rfl
    have cX_x8_9 := X_x_9.out.cell (j := 8) rfl
    have cX_x9_9 := X_x_9.out.cell (j := 9) rfl
    have cX_x10_9 := X_x_9.out.cell (j := 10) rfl
    have cX_x11_9 := X_x_9.out.cell (j := 11) rfl
    have cX_x12_9 := X_x_9.out.cell (j := 12) rfl
    have cX_g0_9 := X_g_9.out.cell (j := 0) rfl
    have cX_g1_9 := X_g_9.out.cell (j := 1) rfl
    have cX_g2_9 := X_g_9.out.cell (j := 2) rfl
    have cX_g3_9 := X_g_9.out.cell (j := 3) rfl
    have cX_g4_9 := X_g_9.out.cell (j := 4) rfl
    have cX_g5_9 := X_g_9.out.cell (j := 5) rfl
    have cX_g6_9 := X_g_9.out.cell (j := 6) rfl
    have cX_g7_9 := X_g_9.out.cell (j := 7) rfl
    have cX_g8_9 := X_g_9.out.cell (j := 8) rfl
    have cX_g9_9 := X_g_9.out.cell (j := 9) rfl
    have cX_g10_9 := X_g_9.out.cell (j := 10) rfl
    have cX_g11_9 := X_g_9.out.cell (j := 11) rfl
    have cX_g12_9 := X_g_9.out.cell (j := 12) rfl
    go_wp2_with fail
    refine (markStream_o d 1 v4 c4 d.late ((w3.alloc (.cells #[.int .i64 D.st, .int .i64 D.iss, .int .i64 D.una, .int .i64 D.rcv, .string D.wait, .int .i64 D.sent, .int .i64 D.fin, .bool D.pf, .string D.inn, .slice v3 D.late.length c3, .bool D.owe, .int .i64 D.due, .int .i64 D.times] 28)).heap.size) (w4.heap.size) (by omega) (by omega) _ (by have := O0.out; have := O1.out; have := O2.out; have := O3.out; have := O3a.out; have := O4.out; have := O4a.out; have := O5.out; have := O5a.out; have := O6.out; have := O7.out; have := O9.out; omega) Y4_9.out).mono ?_
    rintro e w10 ⟨rfl, hm10, kp, b10⟩
    have O10 := hid b10.size
    have X_p_10 := hid (X_p_9.out.kept kp (by have := O0.out; have := O1.out; have := O2.out; have := O3.out; have := O3a.out; have := O4.out; have := O4a.out; have := O5.out; have := O5a.out; have := O6.out; have := O7.out; have := O9.out; have := O10.out; omega))
    have B_10 := hid (B_9.out.trans (b10.mono (by have := O0.out; have := O1.out; have := O2.out; have := O3.out; have := O3a.out; have := O4.out; have := O4a.out; have := O5.out; have := O5a.out; have := O6.out; have := O7.out; have := O9.out; have := O10.out; omega)))
    have G_w_10 := hid (G_w_9.out.kept kp (by have := O0.out; have := O1.out; have := O2.out; have := O3.out; have := O3a.out; have := O4.out; have := O4a.out; have := O5.out; have := O5a.out; have := O6.out; have := O7.out; have := O9.out; have := O10.out; omega))
    have R_w_10 := hid (R_w_9.out.kept kp (by have := O0.out; have := O1.out; have := O2.out; have := O3.out; have := O3a.out; have := O4.out; have := O4a.out; have := O5.out; have := O5a.out; have := O6.out; have := O7.out; have := O9.out; have := O10.out; omega))
    have X_w_10 := hid (X_w_9.out.kept kp (by have := O0.out; have := O1.out; have := O2.out; have := O3.out; have := O3a.out; have := O4.out; have := O4a.out; have := O5.out; have := O5a.out; have := O6.out; have := O7.out; have := O9.out; have := O10.out; omega))
    have X_x_10 := hid (X_x_9.out.kept kp (by have := O0.out; have := O1.out; have := O2.out; have := O3.out; have := O3a.out; have := O4.out; have := O4a.out; have := O5.out; have := O5a.out; have := O6.out; have := O7.out; have := O9.out; have := O10.out; omega))
    have G_g_10 := hid (G_g_9.out.kept kp (by have := O0.out; have := O1.out; have := O2.out; have := O3.out; have := O3a.out; have := O4.out; have := O4a.out; have := O5.out; have := O5a.out; have := O6.out; have := O7.out; have := O9.out; have := O10.out; omega))
    have R_g_10 := hid (R_g_9.out.kept kp (by have := O0.out; have := O1.out; have := O2.out; have := O3.out; have := O3a.out; have := O4.out; have := O4a.out; have := O5.out; have := O5a.out; have := O6.out; have := O7.out; have := O9.out; have := O10.out; omega))
    have X_g_10 := hid (X_g_9.out.kept kp (by have := O0.out; have := O1.out; have := O2.out; have := O3.out; have := O3a.out; have := O4.out; have := O4a.out; have := O5.out; have := O5a.out; have := O6.out; have := O7.out; have := O9.out; have := O10.out; omega))
    clear kp b10 Y4_9 X_p_9 B_9 G_w_9 R_w_9 X_w_9 X_x_9 G_g_9 R_g_9 X_g_9 cX_p0_9 cX_p1_9 cX_p2_9 cX_p3_9 cX_p4_9 cX_p5_9 cX_p6_9 cX_p7_9 cX_p8_9 cX_p9_9 cX_p10_9 cX_p11_9 cX_p12_9 cX_w0_9 cX_w1_9 cX_w2_9 cX_w3_9 cX_w4_9 cX_w5_9 cX_w6_9 cX_w7_9 cX_w8_9 cX_w9_9 cX_w10_9 cX_w11_9 cX_w12_9 cX_x0_9 cX_x1_9 cX_x2_9 cX_x3_9 cX_x4_9 cX_x5_9 cX_x6_9 cX_x7_9 cX_x8_9 cX_x9_9 cX_x10_9 cX_x11_9 cX_x12_9 cX_g0_9 cX_g1_9 cX_g2_9 cX_g3_9 cX_g4_9 cX_g5_9 cX_g6_9 cX_g7_9 cX_g8_9 cX_g9_9 cX_g10_9 cX_g11_9 cX_g12_9
    have cX_p0_10 := X_p_10.out.cell (j := 0) rfl
    have cX_p1_10 := X_p_10.out.cell (j := 1) rfl
    have cX_p2_10 := X_p_10.out.cell (j := 2) rfl
    have cX_p3_10 := X_p_10.out.cell (j := 3) rfl
    have cX_p4_10 := X_p_10.out.cell (j := 4) rfl
    have cX_p5_10 := X_p_10.out.cell (j := 5) rfl
    have cX_p6_10 := X_p_10.out.cell (j := 6) rfl
    have cX_p7_10 := X_p_10.out.cell (j := 7) rfl
    have cX_p8_10 := X_p_10.out.cell (j := 8) rfl
    have cX_p9_10 := X_p_10.out.cell (j := 9) rfl
    have cX_p10_10 := X_p_10.out.cell (j := 10) rfl
    have cX_p11_10 := X_p_10.out.cell (j := 11) rfl
    have cX_p12_10 := X_p_10.out.cell (j := 12) rfl
    have cX_w0_10 := X_w_10.out.cell (j := 0) rfl
    have cX_w1_10 := X_w_10.out.cell (j := 1) rfl
    have cX_w2_10 := X_w_10.out.cell (j := 2) rfl
    have cX_w3_10 := X_w_10.out.cell (j := 3) rfl
    have cX_w4_10 := X_w_10.out.cell (j := 4) rfl
    have cX_w5_10 := X_w_10.out.cell (j := 5) rfl
    have cX_w6_10 := X_w_10.out.cell (j := 6) rfl
    have cX_w7_10 := X_w_10.out.cell (j := 7) rfl
    have cX_w8_10 := X_w_10.out.cell (j := 8) rfl
    have cX_w9_10 := X_w_10.out.cell (j := 9) rfl
    have cX_w10_10 := X_w_10.out.cell (j := 10) rfl
    have cX_w11_10 := X_w_10.out.cell (j := 11) rfl
    have cX_w12_10 := X_w_10.out.cell (j := 12) rfl
    have cX_x0_10 := X_x_10.out.cell (j := 0) rfl
    have cX_x1_10 := X_x_10.out.cell (j := 1) rfl
    have cX_x2_10 := X_x_10.out.cell (j := 2) rfl
    have cX_x3_10 := X_x_10.out.cell (j := 3) rfl
    have cX_x4_10 := X_x_10.out.cell (j := 4) rfl
    have cX_x5_10 := X_x_10.out.cell (j := 5) rfl
    have cX_x6_10 := X_x_10.out.cell (j := 6) rfl
    have cX_x7_10 := X_x_10.out.cell (j := 7) rfl
    have cX_x8_10 := X_x_10.out.cell (j := 8) rfl
    have cX_x9_10 := X_x_10.out.cell (j := 9) rfl
    have cX_x10_10 := X_x_10.out.cell (j := 10) rfl
    have cX_x11_10 := X_x_10.out.cell (j := 11) rfl
    have cX_x12_10 := X_x_10.out.cell (j := 12) rfl
    have cX_g0_10 := X_g_10.out.cell (j := 0) rfl
    have cX_g1_10 := X_g_10.out.cell (j := 1) rfl
    have cX_g2_10 := X_g_10.out.cell (j := 2) rfl
    have cX_g3_10 := X_g_10.out.cell (j := 3) rfl
    have cX_g4_10 := X_g_10.out.cell (j := 4) rfl
    have cX_g5_10 := X_g_10.out.cell (j := 5) rfl
    have cX_g6_10 := X_g_10.out.cell (j := 6) rfl
    have cX_g7_10 := X_g_10.out.cell (j := 7) rfl
    have cX_g8_10 := X_g_10.out.cell (j := 8) rfl
    have cX_g9_10 := X_g_10.out.cell (j := 9) rfl
    have cX_g10_10 := X_g_10.out.cell (j := 10) rfl
    have cX_g11_10 := X_g_10.out.cell (j := 11) rfl
    have cX_g12_10 := X_g_10.out.cell (j := 12) rfl
    clear hm10
    go_wp2_with fail
    refine Calls.mono (eqStream_same D v5 v3 c5 c3 (by omega) _ R_g_10.out.lates R_w_10.out.lates) ?_
    rintro e w11 ⟨rfl, b11⟩
    have O11 := hid b11.size
    have X_p_11 := hid (X_p_10.out.on b11 X_p_10.out.lt)
    have B_11 := hid (below_via B_10.out b11)
    have G_w_11 := hid (G_w_10.out.on b11)
    have R_w_11 := hid (R_w_10.out.on b11)
    have X_w_11 := hid (X_w_10.out.on b11 X_w_10.out.lt)
    have X_x_11 := hid (X_x_10.out.on b11 X_x_10.out.lt)
    have G_g_11 := hid (G_g_10.out.on b11)
    have R_g_11 := hid (R_g_10.out.on b11)
    have X_g_11 := hid (X_g_10.out.on b11 X_g_10.out.lt)
    clear b11 X_p_10 B_10 G_w_10 R_w_10 X_w_10 X_x_10 G_g_10 R_g_10 X_g_10 cX_p0_10 cX_p1_10 cX_p2_10 cX_p3_10 cX_p4_10 cX_p5_10 cX_p6_10 cX_p7_10 cX_p8_10 cX_p9_10 cX_p10_10 cX_p11_10 cX_p12_10 cX_w0_10 cX_w1_10 cX_w2_10 cX_w3_10 cX_w4_10 cX_w5_10 cX_w6_10 cX_w7_10 cX_w8_10 cX_w9_10 cX_w10_10 cX_w11_10 cX_w12_10 cX_x0_10 cX_x1_10 cX_x2_10 cX_x3_10 cX_x4_10 cX_x5_10 cX_x6_10 cX_x7_10 cX_x8_10 cX_x9_10 cX_x10_10 cX_x11_10 cX_x12_10 cX_g0_10 cX_g1_10 cX_g2_10 cX_g3_10 cX_g4_10 cX_g5_10 cX_g6_10 cX_g7_10 cX_g8_10 cX_g9_10 cX_g10_10 cX_g11_10 cX_g12_10
    have cX_p0_11 := X_p_11.out.cell (j := 0) rfl
    have cX_p1_11 := X_p_11.out.cell (j := 1) rfl
    have cX_p2_11 := X_p_11.out.cell (j := 2) rfl
    have cX_p3_11 := X_p_11.out.cell (j := 3) rfl
    have cX_p4_11 := X_p_11.out.cell (j := 4) rfl
    have cX_p5_11 := X_p_11.out.cell (j := 5) rfl
    have cX_p6_11 := X_p_11.out.cell (j := 6) rfl
    have cX_p7_11 := X_p_11.out.cell (j := 7) rfl
    have cX_p8_11 := X_p_11.out.cell (j := 8) rfl
    have cX_p9_11 := X_p_11.out.cell (j := 9) rfl
    have cX_p10_11 := X_p_11.out.cell (j := 10) rfl
    have cX_p11_11 := X_p_11.out.cell (j := 11) rfl
    have cX_p12_11 := X_p_11.out.cell (j := 12) rfl
    have cX_w0_11 := X_w_11.out.cell (j := 0) rfl
    have cX_w1_11 := X_w_11.out.cell (j := 1) rfl
    have cX_w2_11 := X_w_11.out.cell (j := 2) rfl
    have cX_w3_11 := X_w_11.out.cell (j := 3) rfl
    have cX_w4_11 := X_w_11.out.cell (j := 4) rfl
    have cX_w5_11 := X_w_11.out.cell (j := 5) rfl
    have cX_w6_11 := X_w_11.out.cell (j := 6) rfl
    have cX_w7_11 := X_w_11.out.cell (j := 7) rfl
    have cX_w8_11 := X_w_11.out.cell (j := 8) rfl
    have cX_w9_11 := X_w_11.out.cell (j := 9) rfl
    have cX_w10_11 := X_w_11.out.cell (j := 10) rfl
    have cX_w11_11 := X_w_11.out.cell (j := 11) rfl
    have cX_w12_11 := X_w_11.out.cell (j := 12) rfl
    have cX_x0_11 := X_x_11.out.cell (j := 0) rfl
    have cX_x1_11 := X_x_11.out.cell (j := 1) rfl
    have cX_x2_11 := X_x_11.out.cell (j := 2) rfl
    have cX_x3_11 := X_x_11.out.cell (j := 3) rfl
    have cX_x4_11 := X_x_11.out.cell (j := 4) rfl
    have cX_x5_11 := X_x_11.out.cell (j := 5) rfl
    have cX_x6_11 := X_x_11.out.cell (j := 6) rfl
    have cX_x7_11 := X_x_11.out.cell (j := 7) rfl
    have cX_x8_11 := X_x_11.out.cell (j := 8) rfl
    have cX_x9_11 := X_x_11.out.cell (j := 9) rfl
    have cX_x10_11 := X_x_11.out.cell (j := 10) rfl
    have cX_x11_11 := X_x_11.out.cell (j := 11) rfl
    have cX_x12_11 := X_x_11.out.cell (j := 12) rfl
    have cX_g0_11 := X_g_11.out.cell (j := 0) rfl
    have cX_g1_11 := X_g_11.out.cell (j := 1) rfl
    have cX_g2_11 := X_g_11.out.cell (j := 2) rfl
    have cX_g3_11 := X_g_11.out.cell (j := 3) rfl
    have cX_g4_11 := X_g_11.out.cell (j := 4) rfl
    have cX_g5_11 := X_g_11.out.cell (j := 5) rfl
    have cX_g6_11 := X_g_11.out.cell (j := 6) rfl
    have cX_g7_11 := X_g_11.out.cell (j := 7) rfl
    have cX_g8_11 := X_g_11.out.cell (j := 8) rfl
    have cX_g9_11 := X_g_11.out.cell (j := 9) rfl
    have cX_g10_11 := X_g_11.out.cell (j := 10) rfl
    have cX_g11_11 := X_g_11.out.cell (j := 11) rfl
    have cX_g12_11 := X_g_11.out.cell (j := 12) rfl
    go_wp2_with fail
    refine Calls.mono (eqSegS_same u5 u3 SG q5 q3 (by omega) _ (G_g_11.out.segs rfl) (G_w_11.out.segs rfl)) ?_
    rintro e w12 ⟨rfl, b12⟩
    have O12 := hid b12.size
    have X_p_12 := hid (X_p_11.out.on b12 X_p_11.out.lt)
    have B_12 := hid (below_via B_11.out b12)
    have G_w_12 := hid (G_w_11.out.on b12)
    have R_w_12 := hid (R_w_11.out.on b12)
    have X_w_12 := hid (X_w_11.out.on b12 X_w_11.out.lt)
    have X_x_12 := hid (X_x_11.out.on b12 X_x_11.out.lt)
    have G_g_12 := hid (G_g_11.out.on b12)
    have R_g_12 := hid (R_g_11.out.on b12)
    have X_g_12 := hid (X_g_11.out.on b12 X_g_11.out.lt)
    clear b12 X_p_11 B_11 G_w_11 R_w_11 X_w_11 X_x_11 G_g_11 R_g_11 X_g_11 cX_p0_11 cX_p1_11 cX_p2_11 cX_p3_11 cX_p4_11 cX_p5_11 cX_p6_11 cX_p7_11 cX_p8_11 cX_p9_11 cX_p10_11 cX_p11_11 cX_p12_11 cX_w0_11 cX_w1_11 cX_w2_11 cX_w3_11 cX_w4_11 cX_w5_11 cX_w6_11 cX_w7_11 cX_w8_11 cX_w9_11 cX_w10_11 cX_w11_11 cX_w12_11 cX_x0_11 cX_x1_11 cX_x2_11 cX_x3_11 cX_x4_11 cX_x5_11 cX_x6_11 cX_x7_11 cX_x8_11 cX_x9_11 cX_x10_11 cX_x11_11 cX_x12_11 cX_g0_11 cX_g1_11 cX_g2_11 cX_g3_11 cX_g4_11 cX_g5_11 cX_g6_11 cX_g7_11 cX_g8_11 cX_g9_11 cX_g10_11 cX_g11_11 cX_g12_11
    have cX_p0_12 := X_p_12.out.cell (j := 0) rfl
    have cX_p1_12 := X_p_12.out.cell (j := 1) rfl
    have cX_p2_12 := X_p_12.out.cell (j := 2) rfl
    have cX_p3_12 := X_p_12.out.cell (j := 3) rfl
    have cX_p4_12 := X_p_12.out.cell (j := 4) rfl
    have cX_p5_12 := X_p_12.out.cell (j := 5) rfl
    have cX_p6_12 := X_p_12.out.cell (j := 6) rfl
    have cX_p7_12 := X_p_12.out.cell (j := 7) rfl
    have cX_p8_12 := X_p_12.out.cell (j := 8) rfl
    have cX_p9_12 := X_p_12.out.cell (j := 9) rfl
    have cX_p10_12 := X_p_12.out.cell (j := 10) rfl
    have cX_p11_12 := X_p_12.out.cell (j := 11) rfl
    have cX_p12_12 := X_p_12.out.cell (j := 12) rfl
    have cX_w0_12 := X_w_12.out.cell (j := 0) rfl
    have cX_w1_12 := X_w_12.out.cell (j := 1) rfl
    have cX_w2_12 := X_w_12.out.cell (j := 2) rfl
    have cX_w3_12 := X_w_12.out.cell (j := 3) rfl
    have cX_w4_12 := X_w_12.out.cell (j := 4) rfl
    have cX_w5_12 := X_w_12.out.cell (j := 5) rfl
    have cX_w6_12 := X_w_12.out.cell (j := 6) rfl
    have cX_w7_12 := X_w_12.out.cell (j := 7) rfl
    have cX_w8_12 := X_w_12.out.cell (j := 8) rfl
    have cX_w9_12 := X_w_12.out.cell (j := 9) rfl
    have cX_w10_12 := X_w_12.out.cell (j := 10) rfl
    have cX_w11_12 := X_w_12.out.cell (j := 11) rfl
    have cX_w12_12 := X_w_12.out.cell (j := 12) rfl
    have cX_x0_12 := X_x_12.out.cell (j := 0) rfl
    have cX_x1_12 := X_x_12.out.cell (j := 1) rfl
    have cX_x2_12 := X_x_12.out.cell (j := 2) rfl
    have cX_x3_12 := X_x_12.out.cell (j := 3) rfl
    have cX_x4_12 := X_x_12.out.cell (j := 4) rfl
    have cX_x5_12 := X_x_12.out.cell (j := 5) rfl
    have cX_x6_12 := X_x_12.out.cell (j := 6) rfl
    have cX_x7_12 := X_x_12.out.cell (j := 7) rfl
    have cX_x8_12 := X_x_12.out.cell (j := 8) rfl
    have cX_x9_12 := X_x_12.out.cell (j := 9) rfl
    have cX_x10_12 := X_x_12.out.cell (j := 10) rfl
    have cX_x11_12 := X_x_12.out.cell (j := 11) rfl
    have cX_x12_12 := X_x_12.out.cell (j := 12) rfl
    have cX_g0_12 := X_g_12.out.cell (j := 0) rfl
    have cX_g1_12 := X_g_12.out.cell (j := 1) rfl
    have cX_g2_12 := X_g_12.out.cell (j := 2) rfl
    have cX_g3_12 := X_g_12.out.cell (j := 3) rfl
    have cX_g4_12 := X_g_12.out.cell (j := 4) rfl
    have cX_g5_12 := X_g_12.out.cell (j := 5) rfl
    have cX_g6_12 := X_g_12.out.cell (j := 6) rfl
    have cX_g7_12 := X_g_12.out.cell (j := 7) rfl
    have cX_g8_12 := X_g_12.out.cell (j := 8) rfl
    have cX_g9_12 := X_g_12.out.cell (j := 9) rfl
    have cX_g10_12 := X_g_12.out.cell (j := 10) rfl
    have cX_g11_12 := X_g_12.out.cell (j := 11) rfl
    have cX_g12_12 := X_g_12.out.cell (j := 12) rfl
    obtain ⟨K1, hK1⟩ : ∃ K, 1 + 2 * D.late.length = K := ⟨_, rfl⟩
    obtain ⟨K2, hK2⟩ : ∃ K, K1 + 4 * SG.length = K := ⟨_, rfl⟩
    have hK1b : K1 ≤ 10000000 := by omega
    have HK1 := hid hK1
    have HK2 := hid hK2
    clear hK1 hK2
    have CM := hid (markStream_t D 1 v5 c5 D.late ((w4.alloc (.cells #[.int .i64 d.st, .int .i64 d.iss, .int .i64 d.una, .int .i64 d.rcv, .string d.wait, .int .i64 d.sent, .int .i64 d.fin, .bool d.pf, .string d.inn, .slice v4 d.late.length c4, .bool d.owe, .int .i64 d.due, .int .i64 d.times] 28)).heap.size) (w5.heap.size) (by omega) hA2 w12 (by have := O0.out; have := O1.out; have := O2.out; have := O3.out; have := O3a.out; have := O4.out; have := O4a.out; have := O5.out; have := O5a.out; have := O6.out; have := O7.out; have := O9.out; have := O10.out; have := O11.out; have := O12.out; omega) R_g_12.out)
    rw [HK1.out] at CM
    go_wp2_with fail
    refine Calls.mono CM.out ?_
    rintro e w13 ⟨rfl, hm13, kp, b13⟩
    have O13 := hid b13.size
    have X_p_13 := hid (X_p_12.out.keptO kp (by decide))
    have B_13 := hid (B_12.out.trans (b13.mono (by have := O0.out; have := O1.out; have := O2.out; have := O3.out; have := O3a.out; have := O4.out; have := O4a.out; have := O5.out; have := O5a.out; have := O6.out; have := O7.out; have := O9.out; have := O10.out; have := O11.out; have := O12.out; have := O13.out; omega)))
    have G_w_13 := hid (G_w_12.out.keptO kp (Or.inr (Or.inr (by decide))))
    have R_w_13 := hid (R_w_12.out.keptO kp (by have := O0.out; have := O1.out; have := O2.out; have := O3.out; have := O3a.out; have := O4.out; have := O4a.out; have := O5.out; have := O5a.out; have := O6.out; have := O7.out; have := O9.out; have := O10.out; have := O11.out; have := O12.out; have := O13.out; first | exact Or.inl (by omega) | exact Or.inr (Or.inl (by omega))))
    have X_w_13 := hid (X_w_12.out.keptO kp (by decide))
    have X_x_13 := hid (X_x_12.out.keptO kp (by decide))
    have G_g_13 := hid (G_g_12.out.keptO kp (Or.inr (Or.inr (by decide))))
    have X_g_13 := hid (X_g_12.out.keptO kp (by decide))
    have M1_13 := hid hm13
    clear CM kp hm13 b13 R_g_12 X_p_12 B_12 G_w_12 R_w_12 X_w_12 X_x_12 G_g_12 X_g_12 cX_p0_12 cX_p1_12 cX_p2_12 cX_p3_12 cX_p4_12 cX_p5_12 cX_p6_12 cX_p7_12 cX_p8_12 cX_p9_12 cX_p10_12 cX_p11_12 cX_p12_12 cX_w0_12 cX_w1_12 cX_w2_12 cX_w3_12 cX_w4_12 cX_w5_12 cX_w6_12 cX_w7_12 cX_w8_12 cX_w9_12 cX_w10_12 cX_w11_12 cX_w12_12 cX_x0_12 cX_x1_12 cX_x2_12 cX_x3_12 cX_x4_12 cX_x5_12 cX_x6_12 cX_x7_12 cX_x8_12 cX_x9_12 cX_x10_12 cX_x11_12 cX_x12_12 cX_g0_12 cX_g1_12 cX_g2_12 cX_g3_12 cX_g4_12 cX_g5_12 cX_g6_12 cX_g7_12 cX_g8_12 cX_g9_12 cX_g10_12 cX_g11_12 cX_g12_12
    have cX_p0_13 := X_p_13.out.cell (j := 0) rfl
    have cX_p1_13 := X_p_13.out.cell (j := 1) rfl
    have cX_p2_13 := X_p_13.out.cell (j := 2) rfl
    have cX_p3_13 := X_p_13.out.cell (j := 3) rfl
    have cX_p4_13 := X_p_13.out.cell (j := 4) rfl
    have cX_p5_13 := X_p_13.out.cell (j := 5) rfl
    have cX_p6_13 := X_p_13.out.cell (j := 6) rfl
    have cX_p7_13 := X_p_13.out.cell (j := 7) rfl
    have cX_p8_13 := X_p_13.out.cell (j := 8) rfl
    have cX_p9_13 := X_p_13.out.cell (j := 9) rfl
    have cX_p10_13 := X_p_13.out.cell (j := 10) rfl
    have cX_p11_13 := X_p_13.out.cell (j := 11) rfl
    have cX_p12_13 := X_p_13.out.cell (j := 12) rfl
    have cX_w0_13 := X_w_13.out.cell (j := 0) rfl
    have cX_w1_13 := X_w_13.out.cell (j := 1) rfl
    have cX_w2_13 := X_w_13.out.cell (j := 2) rfl
    have cX_w3_13 := X_w_13.out.cell (j := 3) rfl
    have cX_w4_13 := X_w_13.out.cell (j := 4) rfl
    have cX_w5_13 := X_w_13.out.cell (j := 5) rfl
    have cX_w6_13 := X_w_13.out.cell (j := 6) rfl
    have cX_w7_13 := X_w_13.out.cell (j := 7) rfl
    have cX_w8_13 := X_w_13.out.cell (j := 8) rfl
    have cX_w9_13 := X_w_13.out.cell (j := 9) rfl
    have cX_w10_13 := X_w_13.out.cell (j := 10) rfl
    have cX_w11_13 := X_w_13.out.cell (j := 11) rfl
    have cX_w12_13 := X_w_13.out.cell (j := 12) rfl
    have cX_x0_13 := X_x_13.out.cell (j := 0) rfl
    have cX_x1_13 := X_x_13.out.cell (j := 1) rfl
    have cX_x2_13 := X_x_13.out.cell (j := 2) rfl
    have cX_x3_13 := X_x_13.out.cell (j := 3) rfl
    have cX_x4_13 := X_x_13.out.cell (j := 4) rfl
    have cX_x5_13 := X_x_13.out.cell (j := 5) rfl
    have cX_x6_13 := X_x_13.out.cell (j := 6) rfl
    have cX_x7_13 := X_x_13.out.cell (j := 7) rfl
    have cX_x8_13 := X_x_13.out.cell (j := 8) rfl
    have cX_x9_13 := X_x_13.out.cell (j := 9) rfl
    have cX_x10_13 := X_x_13.out.cell (j := 10) rfl
    have cX_x11_13 := X_x_13.out.cell (j := 11) rfl
    have cX_x12_13 := X_x_13.out.cell (j := 12) rfl
    have cX_g0_13 := X_g_13.out.cell (j := 0) rfl
    have cX_g1_13 := X_g_13.out.cell (j := 1) rfl
    have cX_g2_13 := X_g_13.out.cell (j := 2) rfl
    have cX_g3_13 := X_g_13.out.cell (j := 3) rfl
    have cX_g4_13 := X_g_13.out.cell (j := 4) rfl
    have cX_g5_13 := X_g_13.out.cell (j := 5) rfl
    have cX_g6_13 := X_g_13.out.cell (j := 6) rfl
    have cX_g7_13 := X_g_13.out.cell (j := 7) rfl
    have cX_g8_13 := X_g_13.out.cell (j := 8) rfl
    have cX_g9_13 := X_g_13.out.cell (j := 9) rfl
    have cX_g10_13 := X_g_13.out.cell (j := 10) rfl
    have cX_g11_13 := X_g_13.out.cell (j := 11) rfl
    have cX_g12_13 := X_g_13.out.cell (j := 12) rfl
    have CM := hid (markSegS_t K1 u5 q5 SG ((w4.alloc (.cells #[.int .i64 d.st, .int .i64 d.iss, .int .i64 d.una, .int .i64 d.rcv, .string d.wait, .int .i64 d.sent, .int .i64 d.fin, .bool d.pf, .string d.inn, .slice v4 d.late.length c4, .bool d.owe, .int .i64 d.due, .int .i64 d.times] 28)).heap.size) (w5.heap.size) hK1b (by omega) w13 (by have := O0.out; have := O1.out; have := O2.out; have := O3.out; have := O3a.out; have := O4.out; have := O4a.out; have := O5.out; have := O5a.out; have := O6.out; have := O7.out; have := O9.out; have := O10.out; have := O11.out; have := O12.out; have := O13.out; omega) G_g_13.out)
    rw [HK2.out] at CM
    go_wp2_with fail
    refine Calls.mono CM.out ?_
    rintro e w14 ⟨rfl, hm14, kp, b14⟩
    have O14 := hid b14.size
    have X_p_14 := hid (X_p_13.out.keptO kp (by decide))
    have B_14 := hid (B_13.out.trans (b14.mono (by have := O0.out; have := O1.out; have := O2.out; have := O3.out; have := O3a.out; have := O4.out; have := O4a.out; have := O5.out; have := O5a.out; have := O6.out; have := O7.out; have := O9.out; have := O10.out; have := O11.out; have := O12.out; have := O13.out; have := O14.out; omega)))
    have G_w_14 := hid (G_w_13.out.keptO kp (by have := O0.out; have := O1.out; have := O2.out; have := O3.out; have := O3a.out; have := O4.out; have := O4a.out; have := O5.out; have := O5a.out; have := O6.out; have := O7.out; have := O9.out; have := O10.out; have := O11.out; have := O12.out; have := O13.out; have := O14.out; first | exact Or.inl (by omega) | exact Or.inr (Or.inl (by omega))))
    have R_w_14 := hid (R_w_13.out.keptO kp (Or.inr (Or.inr (by decide))))
    have X_w_14 := hid (X_w_13.out.keptO kp (by decide))
    have X_x_14 := hid (X_x_13.out.keptO kp (by decide))
    have X_g_14 := hid (X_g_13.out.keptO kp (by decide))
    have M1_14 := hid (M1_13.out.keptO kp (Or.inr (Or.inr (by decide))))
    have M2_14 := hid hm14
    clear CM kp hm14 b14 G_g_13 X_p_13 B_13 G_w_13 R_w_13 X_w_13 X_x_13 X_g_13 M1_13 cX_p0_13 cX_p1_13 cX_p2_13 cX_p3_13 cX_p4_13 cX_p5_13 cX_p6_13 cX_p7_13 cX_p8_13 cX_p9_13 cX_p10_13 cX_p11_13 cX_p12_13 cX_w0_13 cX_w1_13 cX_w2_13 cX_w3_13 cX_w4_13 cX_w5_13 cX_w6_13 cX_w7_13 cX_w8_13 cX_w9_13 cX_w10_13 cX_w11_13 cX_w12_13 cX_x0_13 cX_x1_13 cX_x2_13 cX_x3_13 cX_x4_13 cX_x5_13 cX_x6_13 cX_x7_13 cX_x8_13 cX_x9_13 cX_x10_13 cX_x11_13 cX_x12_13 cX_g0_13 cX_g1_13 cX_g2_13 cX_g3_13 cX_g4_13 cX_g5_13 cX_g6_13 cX_g7_13 cX_g8_13 cX_g9_13 cX_g10_13 cX_g11_13 cX_g12_13
    have cX_p0_14 := X_p_14.out.cell (j := 0) rfl
    have cX_p1_14 := X_p_14.out.cell (j := 1) rfl
    have cX_p2_14 := X_p_14.out.cell (j := 2) rfl
    have cX_p3_14 := X_p_14.out.cell (j := 3) rfl
    have cX_p4_14 := X_p_14.out.cell (j := 4) rfl
    have cX_p5_14 := X_p_14.out.cell (j := 5) rfl
    have cX_p6_14 := X_p_14.out.cell (j := 6) rfl
    have cX_p7_14 := X_p_14.out.cell (j := 7) rfl
    have cX_p8_14 := X_p_14.out.cell (j := 8) rfl
    have cX_p9_14 := X_p_14.out.cell (j := 9) rfl
    have cX_p10_14 := X_p_14.out.cell (j := 10) rfl
    have cX_p11_14 := X_p_14.out.cell (j := 11) rfl
    have cX_p12_14 := X_p_14.out.cell (j := 12) rfl
    have cX_w0_14 := X_w_14.out.cell (j := 0) rfl
    have cX_w1_14 := X_w_14.out.cell (j := 1) rfl
    have cX_w2_14 := X_w_14.out.cell (j := 2) rfl
    have cX_w3_14 := X_w_14.out.cell (j := 3) rfl
    have cX_w4_14 := X_w_14.out.cell (j := 4) rfl
    have cX_w5_14 := X_w_14.out.cell (j := 5) rfl
    have cX_w6_14 := X_w_14.out.cell (j := 6) rfl
    have cX_w7_14 := X_w_14.out.cell (j := 7) rfl
    have cX_w8_14 := X_w_14.out.cell (j := 8) rfl
    have cX_w9_14 := X_w_14.out.cell (j := 9) rfl
    have cX_w10_14 := X_w_14.out.cell (j := 10) rfl
    have cX_w11_14 := X_w_14.out.cell (j := 11) rfl
    have cX_w12_14 := X_w_14.out.cell (j := 12) rfl
    have cX_x0_14 := X_x_14.out.cell (j := 0) rfl
    have cX_x1_14 := X_x_14.out.cell (j := 1) rfl
    have cX_x2_14 := X_x_14.out.cell (j := 2) rfl
    have cX_x3_14 := X_x_14.out.cell (j := 3) rfl
    have cX_x4_14 := X_x_14.out.cell (j := 4) rfl
    have cX_x5_14 := X_x_14.out.cell (j := 5) rfl
    have cX_x6_14 := X_x_14.out.cell (j := 6) rfl
    have cX_x7_14 := X_x_14.out.cell (j := 7) rfl
    have cX_x8_14 := X_x_14.out.cell (j := 8) rfl
    have cX_x9_14 := X_x_14.out.cell (j := 9) rfl
    have cX_x10_14 := X_x_14.out.cell (j := 10) rfl
    have cX_x11_14 := X_x_14.out.cell (j := 11) rfl
    have cX_x12_14 := X_x_14.out.cell (j := 12) rfl
    have cX_g0_14 := X_g_14.out.cell (j := 0) rfl
    have cX_g1_14 := X_g_14.out.cell (j := 1) rfl
    have cX_g2_14 := X_g_14.out.cell (j := 2) rfl
    have cX_g3_14 := X_g_14.out.cell (j := 3) rfl
    have cX_g4_14 := X_g_14.out.cell (j := 4) rfl
    have cX_g5_14 := X_g_14.out.cell (j := 5) rfl
    have cX_g6_14 := X_g_14.out.cell (j := 6) rfl
    have cX_g7_14 := X_g_14.out.cell (j := 7) rfl
    have cX_g8_14 := X_g_14.out.cell (j := 8) rfl
    have cX_g9_14 := X_g_14.out.cell (j := 9) rfl
    have cX_g10_14 := X_g_14.out.cell (j := 10) rfl
    have cX_g11_14 := X_g_14.out.cell (j := 11) rfl
    have cX_g12_14 := X_g_14.out.cell (j := 12) rfl
    have CH := hid (heldStream_any D v5 D.late.length c5 1 (by omega) hA2 w14 (M1_14.out.lates2 (marksLate_length _ _)))
    rw [HK1.out] at CH
    go_wp2_with fail
    refine Calls.mono (CH.out) ?_
    rintro e w15 ⟨rfl, b15⟩
    have O15 := hid b15.size
    clear CH
    have X_p_15 := hid (X_p_14.out.on b15 X_p_14.out.lt)
    have B_15 := hid (below_via B_14.out b15)
    have G_w_15 := hid (G_w_14.out.on b15)
    have R_w_15 := hid (R_w_14.out.on b15)
    have X_w_15 := hid (X_w_14.out.on b15 X_w_14.out.lt)
    have X_x_15 := hid (X_x_14.out.on b15 X_x_14.out.lt)
    have X_g_15 := hid (X_g_14.out.on b15 X_g_14.out.lt)
    have M1_15 := hid (M1_14.out.on b15)
    have M2_15 := hid (M2_14.out.on b15)
    clear b15 X_p_14 B_14 G_w_14 R_w_14 X_w_14 X_x_14 X_g_14 M1_14 M2_14 cX_p0_14 cX_p1_14 cX_p2_14 cX_p3_14 cX_p4_14 cX_p5_14 cX_p6_14 cX_p7_14 cX_p8_14 cX_p9_14 cX_p10_14 cX_p11_14 cX_p12_14 cX_w0_14 cX_w1_14 cX_w2_14 cX_w3_14 cX_w4_14 cX_w5_14 cX_w6_14 cX_w7_14 cX_w8_14 cX_w9_14 cX_w10_14 cX_w11_14 cX_w12_14 cX_x0_14 cX_x1_14 cX_x2_14 cX_x3_14 cX_x4_14 cX_x5_14 cX_x6_14 cX_x7_14 cX_x8_14 cX_x9_14 cX_x10_14 cX_x11_14 cX_x12_14 cX_g0_14 cX_g1_14 cX_g2_14 cX_g3_14 cX_g4_14 cX_g5_14 cX_g6_14 cX_g7_14 cX_g8_14 cX_g9_14 cX_g10_14 cX_g11_14 cX_g12_14
    have cX_p0_15 := X_p_15.out.cell (j := 0) rfl
    have cX_p1_15 := X_p_15.out.cell (j := 1) rfl
    have cX_p2_15 := X_p_15.out.cell (j := 2) rfl
    have cX_p3_15 := X_p_15.out.cell (j := 3) rfl
    have cX_p4_15 := X_p_15.out.cell (j := 4) rfl
    have cX_p5_15 := X_p_15.out.cell (j := 5) rfl
    have cX_p6_15 := X_p_15.out.cell (j := 6) rfl
    have cX_p7_15 := X_p_15.out.cell (j := 7) rfl
    have cX_p8_15 := X_p_15.out.cell (j := 8) rfl
    have cX_p9_15 := X_p_15.out.cell (j := 9) rfl
    have cX_p10_15 := X_p_15.out.cell (j := 10) rfl
    have cX_p11_15 := X_p_15.out.cell (j := 11) rfl
    have cX_p12_15 := X_p_15.out.cell (j := 12) rfl
    have cX_w0_15 := X_w_15.out.cell (j := 0) rfl
    have cX_w1_15 := X_w_15.out.cell (j := 1) rfl
    have cX_w2_15 := X_w_15.out.cell (j := 2) rfl
    have cX_w3_15 := X_w_15.out.cell (j := 3) rfl
    have cX_w4_15 := X_w_15.out.cell (j := 4) rfl
    have cX_w5_15 := X_w_15.out.cell (j := 5) rfl
    have cX_w6_15 := X_w_15.out.cell (j := 6) rfl
    have cX_w7_15 := X_w_15.out.cell (j := 7) rfl
    have cX_w8_15 := X_w_15.out.cell (j := 8) rfl
    have cX_w9_15 := X_w_15.out.cell (j := 9) rfl
    have cX_w10_15 := X_w_15.out.cell (j := 10) rfl
    have cX_w11_15 := X_w_15.out.cell (j := 11) rfl
    have cX_w12_15 := X_w_15.out.cell (j := 12) rfl
    have cX_x0_15 := X_x_15.out.cell (j := 0) rfl
    have cX_x1_15 := X_x_15.out.cell (j := 1) rfl
    have cX_x2_15 := X_x_15.out.cell (j := 2) rfl
    have cX_x3_15 := X_x_15.out.cell (j := 3) rfl
    have cX_x4_15 := X_x_15.out.cell (j := 4) rfl
    have cX_x5_15 := X_x_15.out.cell (j := 5) rfl
    have cX_x6_15 := X_x_15.out.cell (j := 6) rfl
    have cX_x7_15 := X_x_15.out.cell (j := 7) rfl
    have cX_x8_15 := X_x_15.out.cell (j := 8) rfl
    have cX_x9_15 := X_x_15.out.cell (j := 9) rfl
    have cX_x10_15 := X_x_15.out.cell (j := 10) rfl
    have cX_x11_15 := X_x_15.out.cell (j := 11) rfl
    have cX_x12_15 := X_x_15.out.cell (j := 12) rfl
    have cX_g0_15 := X_g_15.out.cell (j := 0) rfl
    have cX_g1_15 := X_g_15.out.cell (j := 1) rfl
    have cX_g2_15 := X_g_15.out.cell (j := 2) rfl
    have cX_g3_15 := X_g_15.out.cell (j := 3) rfl
    have cX_g4_15 := X_g_15.out.cell (j := 4) rfl
    have cX_g5_15 := X_g_15.out.cell (j := 5) rfl
    have cX_g6_15 := X_g_15.out.cell (j := 6) rfl
    have cX_g7_15 := X_g_15.out.cell (j := 7) rfl
    have cX_g8_15 := X_g_15.out.cell (j := 8) rfl
    have cX_g9_15 := X_g_15.out.cell (j := 9) rfl
    have cX_g10_15 := X_g_15.out.cell (j := 10) rfl
    have cX_g11_15 := X_g_15.out.cell (j := 11) rfl
    have cX_g12_15 := X_g_15.out.cell (j := 12) rfl
    have CH := hid (heldSegS_any u5 SG.length q5 K1 hK1b (by omega) w15 (M2_15.out.segs (marksSeg_length _ _)))
    rw [HK2.out] at CH
    go_wp2_with fail
    refine Calls.mono (CH.out) ?_
    rintro e w16 ⟨rfl, b16⟩
    have O16 := hid b16.size
    clear CH
    have X_p_16 := hid (X_p_15.out.on b16 X_p_15.out.lt)
    have B_16 := hid (below_via B_15.out b16)
    have G_w_16 := hid (G_w_15.out.on b16)
    have R_w_16 := hid (R_w_15.out.on b16)
    have X_w_16 := hid (X_w_15.out.on b16 X_w_15.out.lt)
    have X_x_16 := hid (X_x_15.out.on b16 X_x_15.out.lt)
    have X_g_16 := hid (X_g_15.out.on b16 X_g_15.out.lt)
    have M1_16 := hid (M1_15.out.on b16)
    have M2_16 := hid (M2_15.out.on b16)
    clear b16 X_p_15 B_15 G_w_15 R_w_15 X_w_15 X_x_15 X_g_15 M1_15 M2_15 cX_p0_15 cX_p1_15 cX_p2_15 cX_p3_15 cX_p4_15 cX_p5_15 cX_p6_15 cX_p7_15 cX_p8_15 cX_p9_15 cX_p10_15 cX_p11_15 cX_p12_15 cX_w0_15 cX_w1_15 cX_w2_15 cX_w3_15 cX_w4_15 cX_w5_15 cX_w6_15 cX_w7_15 cX_w8_15 cX_w9_15 cX_w10_15 cX_w11_15 cX_w12_15 cX_x0_15 cX_x1_15 cX_x2_15 cX_x3_15 cX_x4_15 cX_x5_15 cX_x6_15 cX_x7_15 cX_x8_15 cX_x9_15 cX_x10_15 cX_x11_15 cX_x12_15 cX_g0_15 cX_g1_15 cX_g2_15 cX_g3_15 cX_g4_15 cX_g5_15 cX_g6_15 cX_g7_15 cX_g8_15 cX_g9_15 cX_g10_15 cX_g11_15 cX_g12_15
    have cX_p0_16 := X_p_16.out.cell (j := 0) rfl
    have cX_p1_16 := X_p_16.out.cell (j := 1) rfl
    have cX_p2_16 := X_p_16.out.cell (j := 2) rfl
    have cX_p3_16 := X_p_16.out.cell (j := 3) rfl
    have cX_p4_16 := X_p_16.out.cell (j := 4) rfl
    have cX_p5_16 := X_p_16.out.cell (j := 5) rfl
    have cX_p6_16 := X_p_16.out.cell (j := 6) rfl
    have cX_p7_16 := X_p_16.out.cell (j := 7) rfl
    have cX_p8_16 := X_p_16.out.cell (j := 8) rfl
    have cX_p9_16 := X_p_16.out.cell (j := 9) rfl
    have cX_p10_16 := X_p_16.out.cell (j := 10) rfl
    have cX_p11_16 := X_p_16.out.cell (j := 11) rfl
    have cX_p12_16 := X_p_16.out.cell (j := 12) rfl
    have cX_w0_16 := X_w_16.out.cell (j := 0) rfl
    have cX_w1_16 := X_w_16.out.cell (j := 1) rfl
    have cX_w2_16 := X_w_16.out.cell (j := 2) rfl
    have cX_w3_16 := X_w_16.out.cell (j := 3) rfl
    have cX_w4_16 := X_w_16.out.cell (j := 4) rfl
    have cX_w5_16 := X_w_16.out.cell (j := 5) rfl
    have cX_w6_16 := X_w_16.out.cell (j := 6) rfl
    have cX_w7_16 := X_w_16.out.cell (j := 7) rfl
    have cX_w8_16 := X_w_16.out.cell (j := 8) rfl
    have cX_w9_16 := X_w_16.out.cell (j := 9) rfl
    have cX_w10_16 := X_w_16.out.cell (j := 10) rfl
    have cX_w11_16 := X_w_16.out.cell (j := 11) rfl
    have cX_w12_16 := X_w_16.out.cell (j := 12) rfl
    have cX_x0_16 := X_x_16.out.cell (j := 0) rfl
    have cX_x1_16 := X_x_16.out.cell (j := 1) rfl
    have cX_x2_16 := X_x_16.out.cell (j := 2) rfl
    have cX_x3_16 := X_x_16.out.cell (j := 3) rfl
    have cX_x4_16 := X_x_16.out.cell (j := 4) rfl
    have cX_x5_16 := X_x_16.out.cell (j := 5) rfl
    have cX_x6_16 := X_x_16.out.cell (j := 6) rfl
    have cX_x7_16 := X_x_16.out.cell (j := 7) rfl
    have cX_x8_16 := X_x_16.out.cell (j := 8) rfl
    have cX_x9_16 := X_x_16.out.cell (j := 9) rfl
    have cX_x10_16 := X_x_16.out.cell (j := 10) rfl
    have cX_x11_16 := X_x_16.out.cell (j := 11) rfl
    have cX_x12_16 := X_x_16.out.cell (j := 12) rfl
    have cX_g0_16 := X_g_16.out.cell (j := 0) rfl
    have cX_g1_16 := X_g_16.out.cell (j := 1) rfl
    have cX_g2_16 := X_g_16.out.cell (j := 2) rfl
    have cX_g3_16 := X_g_16.out.cell (j := 3) rfl
    have cX_g4_16 := X_g_16.out.cell (j := 4) rfl
    have cX_g5_16 := X_g_16.out.cell (j := 5) rfl
    have cX_g6_16 := X_g_16.out.cell (j := 6) rfl
    have cX_g7_16 := X_g_16.out.cell (j := 7) rfl
    have cX_g8_16 := X_g_16.out.cell (j := 8) rfl
    have cX_g9_16 := X_g_16.out.cell (j := 9) rfl
    have cX_g10_16 := X_g_16.out.cell (j := 10) rfl
    have cX_g11_16 := X_g_16.out.cell (j := 11) rfl
    have cX_g12_16 := X_g_16.out.cell (j := 12) rfl
    go_wp2_with fail
    refine Calls.mono (toStream_o d ao cap hl2 _ (HA.out.on B_16.out)) ?_
    rintro e w17 ⟨v17, c17, rfl, hc17, h17, b17⟩
    have O17 := hid b17.size
    have Y17 := hid h17
    clear h17 hc17
    have X_p_17 := hid (X_p_16.out.on b17 X_p_16.out.lt)
    have B_17 := hid (below_via B_16.out b17)
    have G_w_17 := hid (G_w_16.out.on b17)
    have R_w_17 := hid (R_w_16.out.on b17)
    have X_w_17 := hid (X_w_16.out.on b17 X_w_16.out.lt)
    have X_x_17 := hid (X_x_16.out.on b17 X_x_16.out.lt)
    have X_g_17 := hid (X_g_16.out.on b17 X_g_16.out.lt)
    have M1_17 := hid (M1_16.out.on b17)
    have M2_17 := hid (M2_16.out.on b17)
    clear b17 X_p_16 B_16 G_w_16 R_w_16 X_w_16 X_x_16 X_g_16 M1_16 M2_16 cX_p0_16 cX_p1_16 cX_p2_16 cX_p3_16 cX_p4_16 cX_p5_16 cX_p6_16 cX_p7_16 cX_p8_16 cX_p9_16 cX_p10_16 cX_p11_16 cX_p12_16 cX_w0_16 cX_w1_16 cX_w2_16 cX_w3_16 cX_w4_16 cX_w5_16 cX_w6_16 cX_w7_16 cX_w8_16 cX_w9_16 cX_w10_16 cX_w11_16 cX_w12_16 cX_x0_16 cX_x1_16 cX_x2_16 cX_x3_16 cX_x4_16 cX_x5_16 cX_x6_16 cX_x7_16 cX_x8_16 cX_x9_16 cX_x10_16 cX_x11_16 cX_x12_16 cX_g0_16 cX_g1_16 cX_g2_16 cX_g3_16 cX_g4_16 cX_g5_16 cX_g6_16 cX_g7_16 cX_g8_16 cX_g9_16 cX_g10_16 cX_g11_16 cX_g12_16
    have cX_p0_17 := X_p_17.out.cell (j := 0) rfl
    have cX_p1_17 := X_p_17.out.cell (j := 1) rfl
    have cX_p2_17 := X_p_17.out.cell (j := 2) rfl
    have cX_p3_17 := X_p_17.out.cell (j := 3) rfl
    have cX_p4_17 := X_p_17.out.cell (j := 4) rfl
    have cX_p5_17 := X_p_17.out.cell (j := 5) rfl
    have cX_p6_17 := X_p_17.out.cell (j := 6) rfl
    have cX_p7_17 := X_p_17.out.cell (j := 7) rfl
    have cX_p8_17 := X_p_17.out.cell (j := 8) rfl
    have cX_p9_17 := X_p_17.out.cell (j := 9) rfl
    have cX_p10_17 := X_p_17.out.cell (j := 10) rfl
    have cX_p11_17 := X_p_17.out.cell (j := 11) rfl
    have cX_p12_17 := X_p_17.out.cell (j := 12) rfl
    have cX_w0_17 := X_w_17.out.cell (j := 0) rfl
    have cX_w1_17 := X_w_17.out.cell (j := 1) rfl
    have cX_w2_17 := X_w_17.out.cell (j := 2) rfl
    have cX_w3_17 := X_w_17.out.cell (j := 3) rfl
    have cX_w4_17 := X_w_17.out.cell (j := 4) rfl
    have cX_w5_17 := X_w_17.out.cell (j := 5) rfl
    have cX_w6_17 := X_w_17.out.cell (j := 6) rfl
    have cX_w7_17 := X_w_17.out.cell (j := 7) rfl
    have cX_w8_17 := X_w_17.out.cell (j := 8) rfl
    have cX_w9_17 := X_w_17.out.cell (j := 9) rfl
    have cX_w10_17 := X_w_17.out.cell (j := 10) rfl
    have cX_w11_17 := X_w_17.out.cell (j := 11) rfl
    have cX_w12_17 := X_w_17.out.cell (j := 12) rfl
    have cX_x0_17 := X_x_17.out.cell (j := 0) rfl
    have cX_x1_17 := X_x_17.out.cell (j := 1) rfl
    have cX_x2_17 := X_x_17.out.cell (j := 2) rfl
    have cX_x3_17 := X_x_17.out.cell (j := 3) rfl
    have cX_x4_17 := X_x_17.out.cell (j := 4) rfl
    have cX_x5_17 := X_x_17.out.cell (j := 5) rfl
    have cX_x6_17 := X_x_17.out.cell (j := 6) rfl
    have cX_x7_17 := X_x_17.out.cell (j := 7) rfl
    have cX_x8_17 := X_x_17.out.cell (j := 8) rfl
    have cX_x9_17 := X_x_17.out.cell (j := 9) rfl
    have cX_x10_17 := X_x_17.out.cell (j := 10) rfl
    have cX_x11_17 := X_x_17.out.cell (j := 11) rfl
    have cX_x12_17 := X_x_17.out.cell (j := 12) rfl
    have cX_g0_17 := X_g_17.out.cell (j := 0) rfl
    have cX_g1_17 := X_g_17.out.cell (j := 1) rfl
    have cX_g2_17 := X_g_17.out.cell (j := 2) rfl
    have cX_g3_17 := X_g_17.out.cell (j := 3) rfl
    have cX_g4_17 := X_g_17.out.cell (j := 4) rfl
    have cX_g5_17 := X_g_17.out.cell (j := 5) rfl
    have cX_g6_17 := X_g_17.out.cell (j := 6) rfl
    have cX_g7_17 := X_g_17.out.cell (j := 7) rfl
    have cX_g8_17 := X_g_17.out.cell (j := 8) rfl
    have cX_g9_17 := X_g_17.out.cell (j := 9) rfl
    have cX_g10_17 := X_g_17.out.cell (j := 10) rfl
    have cX_g11_17 := X_g_17.out.cell (j := 11) rfl
    have cX_g12_17 := X_g_17.out.cell (j := 12) rfl
    have CQ := hid (implPush_any d _ c17 HSM.out now _ Y17.out.lates)
    unfold PushDid at CQ
    rw [hF, hSG] at CQ
    go_wp2_with fail
    refine Calls.mono (CQ.out) ?_
    rintro e w18 ⟨v18, c18, u18, q18, rfl, h18, g18, b18⟩
    have O18 := hid b18.size
    have R_h := hid h18
    have G_h := hid g18
    clear h18 g18 CQ
    have X_p_18 := hid (X_p_17.out.on b18 X_p_17.out.lt)
    have B_18 := hid (below_via B_17.out b18)
    have G_w_18 := hid (G_w_17.out.on b18)
    have R_w_18 := hid (R_w_17.out.on b18)
    have X_w_18 := hid (X_w_17.out.on b18 X_w_17.out.lt)
    have X_x_18 := hid (X_x_17.out.on b18 X_x_17.out.lt)
    have X_g_18 := hid (X_g_17.out.on b18 X_g_17.out.lt)
    have M1_18 := hid (M1_17.out.on b18)
    have M2_18 := hid (M2_17.out.on b18)
    have Y17_18 := hid (Y17.out.on b18)
    clear b18 X_p_17 B_17 G_w_17 R_w_17 X_w_17 X_x_17 X_g_17 M1_17 M2_17 Y17 cX_p0_17 cX_p1_17 cX_p2_17 cX_p3_17 cX_p4_17 cX_p5_17 cX_p6_17 cX_p7_17 cX_p8_17 cX_p9_17 cX_p10_17 cX_p11_17 cX_p12_17 cX_w0_17 cX_w1_17 cX_w2_17 cX_w3_17 cX_w4_17 cX_w5_17 cX_w6_17 cX_w7_17 cX_w8_17 cX_w9_17 cX_w10_17 cX_w11_17 cX_w12_17 cX_x0_17 cX_x1_17 cX_x2_17 cX_x3_17 cX_x4_17 cX_x5_17 cX_x6_17 cX_x7_17 cX_x8_17 cX_x9_17 cX_x10_17 cX_x11_17 cX_x12_17 cX_g0_17 cX_g1_17 cX_g2_17 cX_g3_17 cX_g4_17 cX_g5_17 cX_g6_17 cX_g7_17 cX_g8_17 cX_g9_17 cX_g10_17 cX_g11_17 cX_g12_17
    have cX_p0_18 := X_p_18.out.cell (j := 0) rfl
    have cX_p1_18 := X_p_18.out.cell (j := 1) rfl
    have cX_p2_18 := X_p_18.out.cell (j := 2) rfl
    have cX_p3_18 := X_p_18.out.cell (j := 3) rfl
    have cX_p4_18 := X_p_18.out.cell (j := 4) rfl
    have cX_p5_18 := X_p_18.out.cell (j := 5) rfl
    have cX_p6_18 := X_p_18.out.cell (j := 6) rfl
    have cX_p7_18 := X_p_18.out.cell (j := 7) rfl
    have cX_p8_18 := X_p_18.out.cell (j := 8) rfl
    have cX_p9_18 := X_p_18.out.cell (j := 9) rfl
    have cX_p10_18 := X_p_18.out.cell (j := 10) rfl
    have cX_p11_18 := X_p_18.out.cell (j := 11) rfl
    have cX_p12_18 := X_p_18.out.cell (j := 12) rfl
    have cX_w0_18 := X_w_18.out.cell (j := 0) rfl
    have cX_w1_18 := X_w_18.out.cell (j := 1) rfl
    have cX_w2_18 := X_w_18.out.cell (j := 2) rfl
    have cX_w3_18 := X_w_18.out.cell (j := 3) rfl
    have cX_w4_18 := X_w_18.out.cell (j := 4) rfl
    have cX_w5_18 := X_w_18.out.cell (j := 5) rfl
    have cX_w6_18 := X_w_18.out.cell (j := 6) rfl
    have cX_w7_18 := X_w_18.out.cell (j := 7) rfl
    have cX_w8_18 := X_w_18.out.cell (j := 8) rfl
    have cX_w9_18 := X_w_18.out.cell (j := 9) rfl
    have cX_w10_18 := X_w_18.out.cell (j := 10) rfl
    have cX_w11_18 := X_w_18.out.cell (j := 11) rfl
    have cX_w12_18 := X_w_18.out.cell (j := 12) rfl
    have cX_x0_18 := X_x_18.out.cell (j := 0) rfl
    have cX_x1_18 := X_x_18.out.cell (j := 1) rfl
    have cX_x2_18 := X_x_18.out.cell (j := 2) rfl
    have cX_x3_18 := X_x_18.out.cell (j := 3) rfl
    have cX_x4_18 := X_x_18.out.cell (j := 4) rfl
    have cX_x5_18 := X_x_18.out.cell (j := 5) rfl
    have cX_x6_18 := X_x_18.out.cell (j := 6) rfl
    have cX_x7_18 := X_x_18.out.cell (j := 7) rfl
    have cX_x8_18 := X_x_18.out.cell (j := 8) rfl
    have cX_x9_18 := X_x_18.out.cell (j := 9) rfl
    have cX_x10_18 := X_x_18.out.cell (j := 10) rfl
    have cX_x11_18 := X_x_18.out.cell (j := 11) rfl
    have cX_x12_18 := X_x_18.out.cell (j := 12) rfl
    have cX_g0_18 := X_g_18.out.cell (j := 0) rfl
    have cX_g1_18 := X_g_18.out.cell (j := 1) rfl
    have cX_g2_18 := X_g_18.out.cell (j := 2) rfl
    have cX_g3_18 := X_g_18.out.cell (j := 3) rfl
    have cX_g4_18 := X_g_18.out.cell (j := 4) rfl
    have cX_g5_18 := X_g_18.out.cell (j := 5) rfl
    have cX_g6_18 := X_g_18.out.cell (j := 6) rfl
    have cX_g7_18 := X_g_18.out.cell (j := 7) rfl
    have cX_g8_18 := X_g_18.out.cell (j := 8) rfl
    have cX_g9_18 := X_g_18.out.cell (j := 9) rfl
    have cX_g10_18 := X_g_18.out.cell (j := 10) rfl
    have cX_g11_18 := X_g_18.out.cell (j := 11) rfl
    have cX_g12_18 := X_g_18.out.cell (j := 12) rfl
    clear Y17_18
    have ba := below_more (Below.refl w18.heap.size w18) (.cells #[.int .i64 D.st, .int .i64 D.iss, .int .i64 D.una, .int .i64 D.rcv, .string D.wait, .int .i64 D.sent, .int .i64 D.fin, .bool D.pf, .string D.inn, .slice v18 D.late.length c18, .bool D.owe, .int .i64 D.due, .int .i64 D.times] 28)
    have hx : BlockIs (w18.alloc (.cells #[.int .i64 D.st, .int .i64 D.iss, .int .i64 D.una, .int .i64 D.rcv, .string D.wait, .int .i64 D.sent, .int .i64 D.fin, .bool D.pf, .string D.inn, .slice v18 D.late.length c18, .bool D.owe, .int .i64 D.due, .int .i64 D.times] 28)) w18.heap.size 28 [.int .i64 D.st, .int .i64 D.iss, .int .i64 D.una, .int .i64 D.rcv, .string D.wait, .int .i64 D.sent, .int .i64 D.fin, .bool D.pf, .string D.inn, .slice v18 D.late.length c18, .bool D.owe, .int .i64 D.due, .int .i64 D.times] := heap_alloc_new w18 _
    have X_p_18a := hid (X_p_18.out.on ba X_p_18.out.lt)
    have B_18a := hid (below_via B_18.out ba)
    have G_w_18a := hid (G_w_18.out.on ba)
    have R_w_18a := hid (R_w_18.out.on ba)
    have X_w_18a := hid (X_w_18.out.on ba X_w_18.out.lt)
    have X_x_18a := hid (X_x_18.out.on ba X_x_18.out.lt)
    have X_g_18a := hid (X_g_18.out.on ba X_g_18.out.lt)
    have M1_18a := hid (M1_18.out.on ba)
    have M2_18a := hid (M2_18.out.on ba)
    have G_h_18a := hid (G_h.out.on ba)
    have R_h_18a := hid (R_h.out.on ba)
    have X_h_18a := hid hx
    have O18a := hid hx.lt
    clear ba hx X_p_18 B_18 G_w_18 R_w_18 X_w_18 X_x_18 X_g_18 M1_18 M2_18 G_h R_h
    have cX_p0_18a := X_p_18a.out.cell (j := 0) rfl
    have cX_p1_18a := X_p_18a.out.cell (j := 1) rfl
    have cX_p2_18a := X_p_18a.out.cell (j := 2) rfl
    have cX_p3_18a := X_p_18a.out.cell (j := 3) rfl
    have cX_p4_18a := X_p_18a.out.cell (j := 4) rfl
    have cX_p5_18a := X_p_18a.out.cell (j := 5) rfl
    have cX_p6_18a := X_p_18a.out.cell (j := 6) rfl
    have cX_p7_18a := X_p_18a.out.cell (j := 7) rfl
    have cX_p8_18a := X_p_18a.out.cell (j := 8) rfl
    have cX_p9_18a := X_p_18a.out.cell (j := 9) rfl
    have cX_p10_18a := X_p_18a.out.cell (j := 10) rfl
    have cX_p11_18a := X_p_18a.out.cell (j := 11) rfl
    have cX_p12_18a := X_p_18a.out.cell (j := 12) rfl
    have cX_w0_18a := X_w_18a.out.cell (j := 0) rfl
    have cX_w1_18a := X_w_18a.out.cell (j := 1) rfl
    have cX_w2_18a := X_w_18a.out.cell (j := 2) rfl
    have cX_w3_18a := X_w_18a.out.cell (j := 3) rfl
    have cX_w4_18a := X_w_18a.out.cell (j := 4) rfl
    have cX_w5_18a := X_w_18a.out.cell (j := 5) rfl
    have cX_w6_18a := X_w_18a.out.cell (j := 6) rfl
    have cX_w7_18a := X_w_18a.out.cell (j := 7) rfl
    have cX_w8_18a := X_w_18a.out.cell (j := 8) rfl
    have cX_w9_18a := X_w_18a.out.cell (j := 9) rfl
    have cX_w10_18a := X_w_18a.out.cell (j := 10) rfl
    have cX_w11_18a := X_w_18a.out.cell (j := 11) rfl
    have cX_w12_18a := X_w_18a.out.cell (j := 12) rfl
    have cX_x0_18a := X_x_18a.out.cell (j := 0) rfl
    have cX_x1_18a := X_x_18a.out.cell (j := 1) rfl
    have cX_x2_18a := X_x_18a.out.cell (j := 2) rfl
    have cX_x3_18a := X_x_18a.out.cell (j := 3) rfl
    have cX_x4_18a := X_x_18a.out.cell (j := 4) rfl
    have cX_x5_18a := X_x_18a.out.cell (j := 5) rfl
    have cX_x6_18a := X_x_18a.out.cell (j := 6) rfl
    have cX_x7_18a := X_x_18a.out.cell (j := 7) rfl
    have cX_x8_18a := X_x_18a.out.cell (j := 8) rfl
    have cX_x9_18a := X_x_18a.out.cell (j := 9) rfl
    have cX_x10_18a := X_x_18a.out.cell (j := 10) rfl
    have cX_x11_18a := X_x_18a.out.cell (j := 11) rfl
    have cX_x12_18a := X_x_18a.out.cell (j := 12) rfl
    have cX_g0_18a := X_g_18a.out.cell (j := 0) rfl
    have cX_g1_18a := X_g_18a.out.cell (j := 1) rfl
    have cX_g2_18a := X_g_18a.out.cell (j := 2) rfl
    have cX_g3_18a := X_g_18a.out.cell (j := 3) rfl
    have cX_g4_18a := X_g_18a.out.cell (j := 4) rfl
    have cX_g5_18a := X_g_18a.out.cell (j := 5) rfl
    have cX_g6_18a := X_g_18a.out.cell (j := 6) rfl
    have cX_g7_18a := X_g_18a.out.cell (j := 7) rfl
    have cX_g8_18a := X_g_18a.out.cell (j := 8) rfl
    have cX_g9_18a := X_g_18a.out.cell (j := 9) rfl
    have cX_g10_18a := X_g_18a.out.cell (j := 10) rfl
    have cX_g11_18a := X_g_18a.out.cell (j := 11) rfl
    have cX_g12_18a := X_g_18a.out.cell (j := 12) rfl
    have cX_h0_18a := X_h_18a.out.cell (j := 0) rfl
    have cX_h1_18a := X_h_18a.out.cell (j := 1) rfl
    have cX_h2_18a := X_h_18a.out.cell (j := 2) rfl
    have cX_h3_18a := X_h_18a.out.cell (j := 3) rfl
    have cX_h4_18a := X_h_18a.out.cell (j := 4) rfl
    have cX_h5_18a := X_h_18a.out.cell (j := 5) rfl
    have cX_h6_18a := X_h_18a.out.cell (j := 6) rfl
    have cX_h7_18a := X_h_18a.out.cell (j := 7) rfl
    have cX_h8_18a := X_h_18a.out.cell (j := 8) rfl
    have cX_h9_18a := X_h_18a.out.cell (j := 9) rfl
    have cX_h10_18a := X_h_18a.out.cell (j := 10) rfl
    have cX_h11_18a := X_h_18a.out.cell (j := 11) rfl
    have cX_h12_18a := X_h_18a.out.cell (j := 12) rfl
    go_wp2_with fail
    refine Calls.mono (eqStream_same D v18 v3 c18 c3 (by omega) _ R_h_18a.out.lates R_w_18a.out.lates) ?_
    rintro e w19 ⟨rfl, b19⟩
    have O19 := hid b19.size
    have X_p_19 := hid (X_p_18a.out.on b19 X_p_18a.out.lt)
    have B_19 := hid (below_via B_18a.out b19)
    have G_w_19 := hid (G_w_18a.out.on b19)
    have R_w_19 := hid (R_w_18a.out.on b19)
    have X_w_19 := hid (X_w_18a.out.on b19 X_w_18a.out.lt)
    have X_x_19 := hid (X_x_18a.out.on b19 X_x_18a.out.lt)
    have X_g_19 := hid (X_g_18a.out.on b19 X_g_18a.out.lt)
    have M1_19 := hid (M1_18a.out.on b19)
    have M2_19 := hid (M2_18a.out.on b19)
    have G_h_19 := hid (G_h_18a.out.on b19)
    have R_h_19 := hid (R_h_18a.out.on b19)
    have X_h_19 := hid (X_h_18a.out.on b19 X_h_18a.out.lt)
    clear b19 X_p_18a B_18a G_w_18a R_w_18a X_w_18a X_x_18a X_g_18a M1_18a M2_18a G_h_18a R_h_18a X_h_18a cX_p0_18a cX_p1_18a cX_p2_18a cX_p3_18a cX_p4_18a cX_p5_18a cX_p6_18a cX_p7_18a cX_p8_18a cX_p9_18a cX_p10_18a cX_p11_18a cX_p12_18a cX_w0_18a cX_w1_18a cX_w2_18a cX_w3_18a cX_w4_18a cX_w5_18a cX_w6_18a cX_w7_18a cX_w8_18a cX_w9_18a cX_w10_18a cX_w11_18a cX_w12_18a cX_x0_18a cX_x1_18a cX_x2_18a cX_x3_18a cX_x4_18a cX_x5_18a cX_x6_18a cX_x7_18a cX_x8_18a cX_x9_18a cX_x10_18a cX_x11_18a cX_x12_18a cX_g0_18a cX_g1_18a cX_g2_18a cX_g3_18a cX_g4_18a cX_g5_18a cX_g6_18a cX_g7_18a cX_g8_18a cX_g9_18a cX_g10_18a cX_g11_18a cX_g12_18a cX_h0_18a cX_h1_18a cX_h2_18a cX_h3_18a cX_h4_18a cX_h5_18a cX_h6_18a cX_h7_18a cX_h8_18a cX_h9_18a cX_h10_18a cX_h11_18a cX_h12_18a cX_p0_18 cX_p1_18 cX_p2_18 cX_p3_18 cX_p4_18 cX_p5_18 cX_p6_18 cX_p7_18 cX_p8_18 cX_p9_18 cX_p10_18 cX_p11_18 cX_p12_18 cX_w0_18 cX_w1_18 cX_w2_18 cX_w3_18 cX_w4_18 cX_w5_18 cX_w6_18 cX_w7_18 cX_w8_18 cX_w9_18 cX_w10_18 cX_w11_18 cX_w12_18 cX_x0_18 cX_x1_18 cX_x2_18 cX_x3_18 cX_x4_18 cX_x5_18 cX_x6_18 cX_x7_18 cX_x8_18 cX_x9_18 cX_x10_18 cX_x11_18 cX_x12_18 cX_g0_18 cX_g1_18 cX_g2_18 cX_g3_18 cX_g4_18 cX_g5_18 cX_g6_18 cX_g7_18 cX_g8_18 cX_g9_18 cX_g10_18 cX_g11_18 cX_g12_18
    have cX_p0_19 := X_p_19.out.cell (j := 0) rfl
    have cX_p1_19 := X_p_19.out.cell (j := 1) rfl
    have cX_p2_19 := X_p_19.out.cell (j := 2) rfl
    have cX_p3_19 := X_p_19.out.cell (j := 3) rfl
    have cX_p4_19 := X_p_19.out.cell (j := 4) rfl
    have cX_p5_19 := X_p_19.out.cell (j := 5) rfl
    have cX_p6_19 := X_p_19.out.cell (j := 6) rfl
    have cX_p7_19 := X_p_19.out.cell (j := 7) rfl
    have cX_p8_19 := X_p_19.out.cell (j := 8) rfl
    have cX_p9_19 := X_p_19.out.cell (j := 9) rfl
    have cX_p10_19 := X_p_19.out.cell (j := 10) rfl
    have cX_p11_19 := X_p_19.out.cell (j := 11) rfl
    have cX_p12_19 := X_p_19.out.cell (j := 12) rfl
    have cX_w0_19 := X_w_19.out.cell (j := 0) rfl
    have cX_w1_19 := X_w_19.out.cell (j := 1) rfl
    have cX_w2_19 := X_w_19.out.cell (j := 2) rfl
    have cX_w3_19 := X_w_19.out.cell (j := 3) rfl
    have cX_w4_19 := X_w_19.out.cell (j := 4) rfl
    have cX_w5_19 := X_w_19.out.cell (j := 5) rfl
    have cX_w6_19 := X_w_19.out.cell (j := 6) rfl
    have cX_w7_19 := X_w_19.out.cell (j := 7) rfl
    have cX_w8_19 := X_w_19.out.cell (j := 8) rfl
    have cX_w9_19 := X_w_19.out.cell (j := 9) rfl
    have cX_w10_19 := X_w_19.out.cell (j := 10) rfl
    have cX_w11_19 := X_w_19.out.cell (j := 11) rfl
    have cX_w12_19 := X_w_19.out.cell (j := 12) rfl
    have cX_x0_19 := X_x_19.out.cell (j := 0) rfl
    have cX_x1_19 := X_x_19.out.cell (j := 1) rfl
    have cX_x2_19 := X_x_19.out.cell (j := 2) rfl
    have cX_x3_19 := X_x_19.out.cell (j := 3) rfl
    have cX_x4_19 := X_x_19.out.cell (j := 4) rfl
    have cX_x5_19 := X_x_19.out.cell (j := 5) rfl
    have cX_x6_19 := X_x_19.out.cell (j := 6) rfl
    have cX_x7_19 := X_x_19.out.cell (j := 7) rfl
    have cX_x8_19 := X_x_19.out.cell (j := 8) rfl
    have cX_x9_19 := X_x_19.out.cell (j := 9) rfl
    have cX_x10_19 := X_x_19.out.cell (j := 10) rfl
    have cX_x11_19 := X_x_19.out.cell (j := 11) rfl
    have cX_x12_19 := X_x_19.out.cell (j := 12) rfl
    have cX_g0_19 := X_g_19.out.cell (j := 0) rfl
    have cX_g1_19 := X_g_19.out.cell (j := 1) rfl
    have cX_g2_19 := X_g_19.out.cell (j := 2) rfl
    have cX_g3_19 := X_g_19.out.cell (j := 3) rfl
    have cX_g4_19 := X_g_19.out.cell (j := 4) rfl
    have cX_g5_19 := X_g_19.out.cell (j := 5) rfl
    have cX_g6_19 := X_g_19.out.cell (j := 6) rfl
    have cX_g7_19 := X_g_19.out.cell (j := 7) rfl
    have cX_g8_19 := X_g_19.out.cell (j := 8) rfl
    have cX_g9_19 := X_g_19.out.cell (j := 9) rfl
    have cX_g10_19 := X_g_19.out.cell (j := 10) rfl
    have cX_g11_19 := X_g_19.out.cell (j := 11) rfl
    have cX_g12_19 := X_g_19.out.cell (j := 12) rfl
    have cX_h0_19 := X_h_19.out.cell (j := 0) rfl
    have cX_h1_19 := X_h_19.out.cell (j := 1) rfl
    have cX_h2_19 := X_h_19.out.cell (j := 2) rfl
    have cX_h3_19 := X_h_19.out.cell (j := 3) rfl
    have cX_h4_19 := X_h_19.out.cell (j := 4) rfl
    have cX_h5_19 := X_h_19.out.cell (j := 5) rfl
    have cX_h6_19 := X_h_19.out.cell (j := 6) rfl
    have cX_h7_19 := X_h_19.out.cell (j := 7) rfl
    have cX_h8_19 := X_h_19.out.cell (j := 8) rfl
    have cX_h9_19 := X_h_19.out.cell (j := 9) rfl
    have cX_h10_19 := X_h_19.out.cell (j := 10) rfl
    have cX_h11_19 := X_h_19.out.cell (j := 11) rfl
    have cX_h12_19 := X_h_19.out.cell (j := 12) rfl
    go_wp2_with fail
    refine Calls.mono (eqSegS_same u18 u3 SG q18 q3 (by omega) _ (G_h_19.out.segs rfl) (G_w_19.out.segs rfl)) ?_
    rintro e w20 ⟨rfl, b20⟩
    have O20 := hid b20.size
    have X_p_20 := hid (X_p_19.out.on b20 X_p_19.out.lt)
    have B_20 := hid (below_via B_19.out b20)
    have G_w_20 := hid (G_w_19.out.on b20)
    have R_w_20 := hid (R_w_19.out.on b20)
    have X_w_20 := hid (X_w_19.out.on b20 X_w_19.out.lt)
    have X_x_20 := hid (X_x_19.out.on b20 X_x_19.out.lt)
    have X_g_20 := hid (X_g_19.out.on b20 X_g_19.out.lt)
    have M1_20 := hid (M1_19.out.on b20)
    have M2_20 := hid (M2_19.out.on b20)
    have G_h_20 := hid (G_h_19.out.on b20)
    have R_h_20 := hid (R_h_19.out.on b20)
    have X_h_20 := hid (X_h_19.out.on b20 X_h_19.out.lt)
    clear b20 X_p_19 B_19 G_w_19 R_w_19 X_w_19 X_x_19 X_g_19 M1_19 M2_19 G_h_19 R_h_19 X_h_19 cX_p0_19 cX_p1_19 cX_p2_19 cX_p3_19 cX_p4_19 cX_p5_19 cX_p6_19 cX_p7_19 cX_p8_19 cX_p9_19 cX_p10_19 cX_p11_19 cX_p12_19 cX_w0_19 cX_w1_19 cX_w2_19 cX_w3_19 cX_w4_19 cX_w5_19 cX_w6_19 cX_w7_19 cX_w8_19 cX_w9_19 cX_w10_19 cX_w11_19 cX_w12_19 cX_x0_19 cX_x1_19 cX_x2_19 cX_x3_19 cX_x4_19 cX_x5_19 cX_x6_19 cX_x7_19 cX_x8_19 cX_x9_19 cX_x10_19 cX_x11_19 cX_x12_19 cX_g0_19 cX_g1_19 cX_g2_19 cX_g3_19 cX_g4_19 cX_g5_19 cX_g6_19 cX_g7_19 cX_g8_19 cX_g9_19 cX_g10_19 cX_g11_19 cX_g12_19 cX_h0_19 cX_h1_19 cX_h2_19 cX_h3_19 cX_h4_19 cX_h5_19 cX_h6_19 cX_h7_19 cX_h8_19 cX_h9_19 cX_h10_19 cX_h11_19 cX_h12_19
    have cX_p0_20 := X_p_20.out.cell (j := 0) rfl
    have cX_p1_20 := X_p_20.out.cell (j := 1) rfl
    have cX_p2_20 := X_p_20.out.cell (j := 2) rfl
    have cX_p3_20 := X_p_20.out.cell (j := 3) rfl
    have cX_p4_20 := X_p_20.out.cell (j := 4) rfl
    have cX_p5_20 := X_p_20.out.cell (j := 5) rfl
    have cX_p6_20 := X_p_20.out.cell (j := 6) rfl
    have cX_p7_20 := X_p_20.out.cell (j := 7) rfl
    have cX_p8_20 := X_p_20.out.cell (j := 8) rfl
    have cX_p9_20 := X_p_20.out.cell (j := 9) rfl
    have cX_p10_20 := X_p_20.out.cell (j := 10) rfl
    have cX_p11_20 := X_p_20.out.cell (j := 11) rfl
    have cX_p12_20 := X_p_20.out.cell (j := 12) rfl
    have cX_w0_20 := X_w_20.out.cell (j := 0) rfl
    have cX_w1_20 := X_w_20.out.cell (j := 1) rfl
    have cX_w2_20 := X_w_20.out.cell (j := 2) rfl
    have cX_w3_20 := X_w_20.out.cell (j := 3) rfl
    have cX_w4_20 := X_w_20.out.cell (j := 4) rfl
    have cX_w5_20 := X_w_20.out.cell (j := 5) rfl
    have cX_w6_20 := X_w_20.out.cell (j := 6) rfl
    have cX_w7_20 := X_w_20.out.cell (j := 7) rfl
    have cX_w8_20 := X_w_20.out.cell (j := 8) rfl
    have cX_w9_20 := X_w_20.out.cell (j := 9) rfl
    have cX_w10_20 := X_w_20.out.cell (j := 10) rfl
    have cX_w11_20 := X_w_20.out.cell (j := 11) rfl
    have cX_w12_20 := X_w_20.out.cell (j := 12) rfl
    have cX_x0_20 := X_x_20.out.cell (j := 0) rfl
    have cX_x1_20 := X_x_20.out.cell (j := 1) rfl
    have cX_x2_20 := X_x_20.out.cell (j := 2) rfl
    have cX_x3_20 := X_x_20.out.cell (j := 3) rfl
    have cX_x4_20 := X_x_20.out.cell (j := 4) rfl
    have cX_x5_20 := X_x_20.out.cell (j := 5) rfl
    have cX_x6_20 := X_x_20.out.cell (j := 6) rfl
    have cX_x7_20 := X_x_20.out.cell (j := 7) rfl
    have cX_x8_20 := X_x_20.out.cell (j := 8) rfl
    have cX_x9_20 := X_x_20.out.cell (j := 9) rfl
    have cX_x10_20 := X_x_20.out.cell (j := 10) rfl
    have cX_x11_20 := X_x_20.out.cell (j := 11) rfl
    have cX_x12_20 := X_x_20.out.cell (j := 12) rfl
    have cX_g0_20 := X_g_20.out.cell (j := 0) rfl
    have cX_g1_20 := X_g_20.out.cell (j := 1) rfl
    have cX_g2_20 := X_g_20.out.cell (j := 2) rfl
    have cX_g3_20 := X_g_20.out.cell (j := 3) rfl
    have cX_g4_20 := X_g_20.out.cell (j := 4) rfl
    have cX_g5_20 := X_g_20.out.cell (j := 5) rfl
    have cX_g6_20 := X_g_20.out.cell (j := 6) rfl
    have cX_g7_20 := X_g_20.out.cell (j := 7) rfl
    have cX_g8_20 := X_g_20.out.cell (j := 8) rfl
    have cX_g9_20 := X_g_20.out.cell (j := 9) rfl
    have cX_g10_20 := X_g_20.out.cell (j := 10) rfl
    have cX_g11_20 := X_g_20.out.cell (j := 11) rfl
    have cX_g12_20 := X_g_20.out.cell (j := 12) rfl
    have cX_h0_20 := X_h_20.out.cell (j := 0) rfl
    have cX_h1_20 := X_h_20.out.cell (j := 1) rfl
    have cX_h2_20 := X_h_20.out.cell (j := 2) rfl
    have cX_h3_20 := X_h_20.out.cell (j := 3) rfl
    have cX_h4_20 := X_h_20.out.cell (j := 4) rfl
    have cX_h5_20 := X_h_20.out.cell (j := 5) rfl
    have cX_h6_20 := X_h_20.out.cell (j := 6) rfl
    have cX_h7_20 := X_h_20.out.cell (j := 7) rfl
    have cX_h8_20 := X_h_20.out.cell (j := 8) rfl
    have cX_h9_20 := X_h_20.out.cell (j := 9) rfl
    have cX_h10_20 := X_h_20.out.cell (j := 10) rfl
    have cX_h11_20 := X_h_20.out.cell (j := 11) rfl
    have cX_h12_20 := X_h_20.out.cell (j := 12) rfl
    have CH := hid (heldStream_any D v5 D.late.length c5 1 (by omega) hA2 w20 (M1_20.out.lates2 (marksLate_length _ _)))
    rw [HK1.out] at CH
    go_wp2_with fail
    refine Calls.mono (CH.out) ?_
    rintro e w21 ⟨rfl, b21⟩
    have O21 := hid b21.size
    clear CH
    have X_p_21 := hid (X_p_20.out.on b21 X_p_20.out.lt)
    have B_21 := hid (below_via B_20.out b21)
    have G_w_21 := hid (G_w_20.out.on b21)
    have R_w_21 := hid (R_w_20.out.on b21)
    have X_w_21 := hid (X_w_20.out.on b21 X_w_20.out.lt)
    have X_x_21 := hid (X_x_20.out.on b21 X_x_20.out.lt)
    have X_g_21 := hid (X_g_20.out.on b21 X_g_20.out.lt)
    have M1_21 := hid (M1_20.out.on b21)
    have M2_21 := hid (M2_20.out.on b21)
    have G_h_21 := hid (G_h_20.out.on b21)
    have R_h_21 := hid (R_h_20.out.on b21)
    have X_h_21 := hid (X_h_20.out.on b21 X_h_20.out.lt)
    clear b21 X_p_20 B_20 G_w_20 R_w_20 X_w_20 X_x_20 X_g_20 M1_20 M2_20 G_h_20 R_h_20 X_h_20 cX_p0_20 cX_p1_20 cX_p2_20 cX_p3_20 cX_p4_20 cX_p5_20 cX_p6_20 cX_p7_20 cX_p8_20 cX_p9_20 cX_p10_20 cX_p11_20 cX_p12_20 cX_w0_20 cX_w1_20 cX_w2_20 cX_w3_20 cX_w4_20 cX_w5_20 cX_w6_20 cX_w7_20 cX_w8_20 cX_w9_20 cX_w10_20 cX_w11_20 cX_w12_20 cX_x0_20 cX_x1_20 cX_x2_20 cX_x3_20 cX_x4_20 cX_x5_20 cX_x6_20 cX_x7_20 cX_x8_20 cX_x9_20 cX_x10_20 cX_x11_20 cX_x12_20 cX_g0_20 cX_g1_20 cX_g2_20 cX_g3_20 cX_g4_20 cX_g5_20 cX_g6_20 cX_g7_20 cX_g8_20 cX_g9_20 cX_g10_20 cX_g11_20 cX_g12_20 cX_h0_20 cX_h1_20 cX_h2_20 cX_h3_20 cX_h4_20 cX_h5_20 cX_h6_20 cX_h7_20 cX_h8_20 cX_h9_20 cX_h10_20 cX_h11_20 cX_h12_20
    have cX_p0_21 := X_p_21.out.cell (j := 0) rfl
    have cX_p1_21 := X_p_21.out.cell (j := 1) rfl
    have cX_p2_21 := X_p_21.out.cell (j := 2) rfl
    have cX_p3_21 := X_p_21.out.cell (j := 3) rfl
    have cX_p4_21 := X_p_21.out.cell (j := 4) rfl
    have cX_p5_21 := X_p_21.out.cell (j := 5) rfl
    have cX_p6_21 := X_p_21.out.cell (j := 6) rfl
    have cX_p7_21 := X_p_21.out.cell (j := 7) rfl
    have cX_p8_21 := X_p_21.out.cell (j := 8) rfl
    have cX_p9_21 := X_p_21.out.cell (j := 9) rfl
    have cX_p10_21 := X_p_21.out.cell (j := 10) rfl
    have cX_p11_21 := X_p_21.out.cell (j := 11) rfl
    have cX_p12_21 := X_p_21.out.cell (j := 12) rfl
    have cX_w0_21 := X_w_21.out.cell (j := 0) rfl
    have cX_w1_21 := X_w_21.out.cell (j := 1) rfl
    have cX_w2_21 := X_w_21.out.cell (j := 2) rfl
    have cX_w3_21 := X_w_21.out.cell (j := 3) rfl
    have cX_w4_21 := X_w_21.out.cell (j := 4) rfl
    have cX_w5_21 := X_w_21.out.cell (j := 5) rfl
    have cX_w6_21 := X_w_21.out.cell (j := 6) rfl
    have cX_w7_21 := X_w_21.out.cell (j := 7) rfl
    have cX_w8_21 := X_w_21.out.cell (j := 8) rfl
    have cX_w9_21 := X_w_21.out.cell (j := 9) rfl
    have cX_w10_21 := X_w_21.out.cell (j := 10) rfl
    have cX_w11_21 := X_w_21.out.cell (j := 11) rfl
    have cX_w12_21 := X_w_21.out.cell (j := 12) rfl
    have cX_x0_21 := X_x_21.out.cell (j := 0) rfl
    have cX_x1_21 := X_x_21.out.cell (j := 1) rfl
    have cX_x2_21 := X_x_21.out.cell (j := 2) rfl
    have cX_x3_21 := X_x_21.out.cell (j := 3) rfl
    have cX_x4_21 := X_x_21.out.cell (j := 4) rfl
    have cX_x5_21 := X_x_21.out.cell (j := 5) rfl
    have cX_x6_21 := X_x_21.out.cell (j := 6) rfl
    have cX_x7_21 := X_x_21.out.cell (j := 7) rfl
    have cX_x8_21 := X_x_21.out.cell (j := 8) rfl
    have cX_x9_21 := X_x_21.out.cell (j := 9) rfl
    have cX_x10_21 := X_x_21.out.cell (j := 10) rfl
    have cX_x11_21 := X_x_21.out.cell (j := 11) rfl
    have cX_x12_21 := X_x_21.out.cell (j := 12) rfl
    have cX_g0_21 := X_g_21.out.cell (j := 0) rfl
    have cX_g1_21 := X_g_21.out.cell (j := 1) rfl
    have cX_g2_21 := X_g_21.out.cell (j := 2) rfl
    have cX_g3_21 := X_g_21.out.cell (j := 3) rfl
    have cX_g4_21 := X_g_21.out.cell (j := 4) rfl
    have cX_g5_21 := X_g_21.out.cell (j := 5) rfl
    have cX_g6_21 := X_g_21.out.cell (j := 6) rfl
    have cX_g7_21 := X_g_21.out.cell (j := 7) rfl
    have cX_g8_21 := X_g_21.out.cell (j := 8) rfl
    have cX_g9_21 := X_g_21.out.cell (j := 9) rfl
    have cX_g10_21 := X_g_21.out.cell (j := 10) rfl
    have cX_g11_21 := X_g_21.out.cell (j := 11) rfl
    have cX_g12_21 := X_g_21.out.cell (j := 12) rfl
    have cX_h0_21 := X_h_21.out.cell (j := 0) rfl
    have cX_h1_21 := X_h_21.out.cell (j := 1) rfl
    have cX_h2_21 := X_h_21.out.cell (j := 2) rfl
    have cX_h3_21 := X_h_21.out.cell (j := 3) rfl
    have cX_h4_21 := X_h_21.out.cell (j := 4) rfl
    have cX_h5_21 := X_h_21.out.cell (j := 5) rfl
    have cX_h6_21 := X_h_21.out.cell (j := 6) rfl
    have cX_h7_21 := X_h_21.out.cell (j := 7) rfl
    have cX_h8_21 := X_h_21.out.cell (j := 8) rfl
    have cX_h9_21 := X_h_21.out.cell (j := 9) rfl
    have cX_h10_21 := X_h_21.out.cell (j := 10) rfl
    have cX_h11_21 := X_h_21.out.cell (j := 11) rfl
    have cX_h12_21 := X_h_21.out.cell (j := 12) rfl
    have CH := hid (heldSegS_any u5 SG.length q5 K1 hK1b (by omega) w21 (M2_21.out.segs (marksSeg_length _ _)))
    rw [HK2.out] at CH
    go_wp2_with fail
    refine Calls.mono (CH.out) ?_
    rintro e w22 ⟨rfl, b22⟩
    have O22 := hid b22.size
    clear CH
    have X_p_22 := hid (X_p_21.out.on b22 X_p_21.out.lt)
    have B_22 := hid (below_via B_21.out b22)
    have G_w_22 := hid (G_w_21.out.on b22)
    have R_w_22 := hid (R_w_21.out.on b22)
    have X_w_22 := hid (X_w_21.out.on b22 X_w_21.out.lt)
    have X_x_22 := hid (X_x_21.out.on b22 X_x_21.out.lt)
    have X_g_22 := hid (X_g_21.out.on b22 X_g_21.out.lt)
    have M1_22 := hid (M1_21.out.on b22)
    have M2_22 := hid (M2_21.out.on b22)
    have G_h_22 := hid (G_h_21.out.on b22)
    have R_h_22 := hid (R_h_21.out.on b22)
    have X_h_22 := hid (X_h_21.out.on b22 X_h_21.out.lt)
    clear b22 X_p_21 B_21 G_w_21 R_w_21 X_w_21 X_x_21 X_g_21 M1_21 M2_21 G_h_21 R_h_21 X_h_21 cX_p0_21 cX_p1_21 cX_p2_21 cX_p3_21 cX_p4_21 cX_p5_21 cX_p6_21 cX_p7_21 cX_p8_21 cX_p9_21 cX_p10_21 cX_p11_21 cX_p12_21 cX_w0_21 cX_w1_21 cX_w2_21 cX_w3_21 cX_w4_21 cX_w5_21 cX_w6_21 cX_w7_21 cX_w8_21 cX_w9_21 cX_w10_21 cX_w11_21 cX_w12_21 cX_x0_21 cX_x1_21 cX_x2_21 cX_x3_21 cX_x4_21 cX_x5_21 cX_x6_21 cX_x7_21 cX_x8_21 cX_x9_21 cX_x10_21 cX_x11_21 cX_x12_21 cX_g0_21 cX_g1_21 cX_g2_21 cX_g3_21 cX_g4_21 cX_g5_21 cX_g6_21 cX_g7_21 cX_g8_21 cX_g9_21 cX_g10_21 cX_g11_21 cX_g12_21 cX_h0_21 cX_h1_21 cX_h2_21 cX_h3_21 cX_h4_21 cX_h5_21 cX_h6_21 cX_h7_21 cX_h8_21 cX_h9_21 cX_h10_21 cX_h11_21 cX_h12_21
    have cX_p0_22 := X_p_22.out.cell (j := 0) rfl
    have cX_p1_22 := X_p_22.out.cell (j := 1) rfl
    have cX_p2_22 := X_p_22.out.cell (j := 2) rfl
    have cX_p3_22 := X_p_22.out.cell (j := 3) rfl
    have cX_p4_22 := X_p_22.out.cell (j := 4) rfl
    have cX_p5_22 := X_p_22.out.cell (j := 5) rfl
    have cX_p6_22 := X_p_22.out.cell (j := 6) rfl
    have cX_p7_22 := X_p_22.out.cell (j := 7) rfl
    have cX_p8_22 := X_p_22.out.cell (j := 8) rfl
    have cX_p9_22 := X_p_22.out.cell (j := 9) rfl
    have cX_p10_22 := X_p_22.out.cell (j := 10) rfl
    have cX_p11_22 := X_p_22.out.cell (j := 11) rfl
    have cX_p12_22 := X_p_22.out.cell (j := 12) rfl
    have cX_w0_22 := X_w_22.out.cell (j := 0) rfl
    have cX_w1_22 := X_w_22.out.cell (j := 1) rfl
    have cX_w2_22 := X_w_22.out.cell (j := 2) rfl
    have cX_w3_22 := X_w_22.out.cell (j := 3) rfl
    have cX_w4_22 := X_w_22.out.cell (j := 4) rfl
    have cX_w5_22 := X_w_22.out.cell (j := 5) rfl
    have cX_w6_22 := X_w_22.out.cell (j := 6) rfl
    have cX_w7_22 := X_w_22.out.cell (j := 7) rfl
    have cX_w8_22 := X_w_22.out.cell (j := 8) rfl
    have cX_w9_22 := X_w_22.out.cell (j := 9) rfl
    have cX_w10_22 := X_w_22.out.cell (j := 10) rfl
    have cX_w11_22 := X_w_22.out.cell (j := 11) rfl
    have cX_w12_22 := X_w_22.out.cell (j := 12) rfl
    have cX_x0_22 := X_x_22.out.cell (j := 0) rfl
    have cX_x1_22 := X_x_22.out.cell (j := 1) rfl
    have cX_x2_22 := X_x_22.out.cell (j := 2) rfl
    have cX_x3_22 := X_x_22.out.cell (j := 3) rfl
    have cX_x4_22 := X_x_22.out.cell (j := 4) rfl
    have cX_x5_22 := X_x_22.out.cell (j := 5) rfl
    have cX_x6_22 := X_x_22.out.cell (j := 6) rfl
    have cX_x7_22 := X_x_22.out.cell (j := 7) rfl
    have cX_x8_22 := X_x_22.out.cell (j := 8) rfl
    have cX_x9_22 := X_x_22.out.cell (j := 9) rfl
    have cX_x10_22 := X_x_22.out.cell (j := 10) rfl
    have cX_x11_22 := X_x_22.out.cell (j := 11) rfl
    have cX_x12_22 := X_x_22.out.cell (j := 12) rfl
    have cX_g0_22 := X_g_22.out.cell (j := 0) rfl
    have cX_g1_22 := X_g_22.out.cell (j := 1) rfl
    have cX_g2_22 := X_g_22.out.cell (j := 2) rfl
    have cX_g3_22 := X_g_22.out.cell (j := 3) rfl
    have cX_g4_22 := X_g_22.out.cell (j := 4) rfl
    have cX_g5_22 := X_g_22.out.cell (j := 5) rfl
    have cX_g6_22 := X_g_22.out.cell (j := 6) rfl
    have cX_g7_22 := X_g_22.out.cell (j := 7) rfl
    have cX_g8_22 := X_g_22.out.cell (j := 8) rfl
    have cX_g9_22 := X_g_22.out.cell (j := 9) rfl
    have cX_g10_22 := X_g_22.out.cell (j := 10) rfl
    have cX_g11_22 := X_g_22.out.cell (j := 11) rfl
    have cX_g12_22 := X_g_22.out.cell (j := 12) rfl
    have cX_h0_22 := X_h_22.out.cell (j := 0) rfl
    have cX_h1_22 := X_h_22.out.cell (j := 1) rfl
    have cX_h2_22 := X_h_22.out.cell (j := 2) rfl
    have cX_h3_22 := X_h_22.out.cell (j := 3) rfl
    have cX_h4_22 := X_h_22.out.cell (j := 4) rfl
    have cX_h5_22 := X_h_22.out.cell (j := 5) rfl
    have cX_h6_22 := X_h_22.out.cell (j := 6) rfl
    have cX_h7_22 := X_h_22.out.cell (j := 7) rfl
    have cX_h8_22 := X_h_22.out.cell (j := 8) rfl
    have cX_h9_22 := X_h_22.out.cell (j := 9) rfl
    have cX_h10_22 := X_h_22.out.cell (j := 10) rfl
    have cX_h11_22 := X_h_22.out.cell (j := 11) rfl
    have cX_h12_22 := X_h_22.out.cell (j := 12) rfl
    go_wp2
    go_ret
    exact ⟨rfl, B_22.out⟩

theorem own : ownKnob Try.prog.godebug = none := by kernel_rfl
theorem laidOut : laidOutB Try.prog = true := by kernel_rfl
theorem rowed : varsRowed Try.prog Rows.fnExactPushSpec.vars = true := by kernel_rfl
set_option maxRecDepth 1000000 in
theorem contract (H : Type) (enc : TypeId × Value → H) (W : World) (base : Nat) (args : Array Value) (ds gs : List (DataW H)) (before : List MemPlace)
    (hval : ∀ (j : Nat) t v, Try.f3.params[j]? = some t → args[j]? = some v → Value.okWide Try.prog W .any base t v)
    (hW : DataW.Whole enc Try.prog Try.f3.params.toList Rows.fnExactPushSpec.vars false W args.toList ds gs before) (_hL : laidMetH Try.prog Rows.fnExactPushRow.laid W) :
    Calls Try.prog 3 args W fun e W' => ∃ v, e = .returned v ∧ Rows.fnExactPushSpec.post enc Try.prog Try.f3 false true false false W args v W' := by
  have hW' := hW
  obtain ⟨p, q, hA0, hV0, rfl, hfz, hnd⟩ := hW
  have hV : DataW.TrodVars enc Try.prog W (fun _ => true) Rows.fnExactPushSpec.vars gs q := hV0
  have hA : DataW.TrodAll enc Try.prog W 0 (fun _ => true) true Try.f3.params.toList args.toList ds p := hA0
  rw [Try.params3] at hA hval
  obtain ⟨v0, vs0, d0, ds0, p0, q0, hargs0, rfl, rfl, h0, r0⟩ := trodAll_cons hA
  obtain ⟨v1, vs1, d1, ds1, p1, q1, hargs1, rfl, rfl, h1, r1⟩ := trodAll_cons r0
  subst hargs1
  obtain ⟨rfl, rfl, rfl⟩ := trodAll_nil r1
  obtain rfl : args = #[v0, v1] := by cases args; simp_all
  have k0 := h0
  have lt0 : ∀ x ∈ p0, x.block < W.heap.size := by obtain ⟨m, hm⟩ := k0; exact DataW.trod_lt m _ _ _ hm
  obtain ⟨a0, ao0, cap0, rfl, hfd0, hc0, hm0, hat0, hfit0⟩ := open_str (hval 0 24 v0 rfl rfl) h0
  obtain ⟨a1, rfl, rfl, rfl, w1⟩ := open_int Try.underlying3 (hval 1 3 v1 rfl rfl) h1
  clear hA0 hV0
  obtain ⟨rfl, rfl⟩ := trodVars_none hV
  refine (walk a0 hfd0 ao0 cap0 (Nat.le_trans hc0 hm0) hfit0 a1 w1 W hat0).mono fun e W' ⟨he, bel⟩ => ?_
  subst he
  exact ⟨_, rfl, _, _, _, [], _, [], hW', trodAll_mk1 (shut_bool Try.underlying4 _), trodAll_cons_mk (Below.trod laidOut (by kernel_rfl) (of_decide_eq_true (by kernel_rfl)) k0 bel lt0) (trodAll_cons_mk (shut_int Try.underlying3 w1) (trodAll_mk0)), rfl, bel.frame _, fun h => by cases h⟩

def put (cs : Array Value) : Obj → Obj
  | .cells _ t frozen => .cells cs t frozen
  | o => o

/-- a world for the witness: the tables hold what their initialisers lay -/
def laidWorld (w : World) : World := { w with heap := w.heap }
theorem laid_met (os : Os) : laidMet Try.prog Rows.fnExactPushRow.laid ((laidWorld (World.holding Try.prog os ⟨#[], #[], []⟩)).forCall (fun _ _ => 0) ⟨#[], #[.agg #[.int .i64 0, .int .i64 0, .int .i64 0, .int .i64 0, .string ByteArray.empty, .int .i64 0, .int .i64 0, .bool false, .string ByteArray.empty, .slice none 0 0, .bool false, .int .i64 0, .int .i64 0], .int .i64 0], []⟩).memory :=
  laidMet_of_run' 8 (by kernel_rfl) (by kernel_rfl)
theorem reads (os : Os) {H : Type} (enc : TypeId × Value → H) : ∃ places, DataW.whole enc Try.prog ((laidWorld (World.holding Try.prog os ⟨#[], #[], []⟩)).forCall (fun _ _ => 0) ⟨#[], #[.agg #[.int .i64 0, .int .i64 0, .int .i64 0, .int .i64 0, .string ByteArray.empty, .int .i64 0, .int .i64 0, .bool false, .string ByteArray.empty, .slice none 0 0, .bool false, .int .i64 0, .int .i64 0], .int .i64 0], []⟩).memory Try.f3.params.toList Rows.fnExactPushSpec.vars false #[Value.agg #[.int .i64 0, .int .i64 0, .int .i64 0, .int .i64 0, .string ByteArray.empty, .int .i64 0, .int .i64 0, .bool false, .string ByteArray.empty, .slice none 0 0, .bool false, .int .i64 0, .int .i64 0], .int .i64 0].toList 8 = some ([.agg [.lit (.int .i64 0), .lit (.int .i64 0), .lit (.int .i64 0), .lit (.int .i64 0), .lit (.string []), .lit (.int .i64 0), .lit (.int .i64 0), .lit (.bool false), .lit (.string []), .nil, .lit (.bool false), .lit (.int .i64 0), .lit (.int .i64 0)], .lit (.int .i64 0)], [], places) :=
  ⟨[], by kernel_rfl⟩

set_option maxRecDepth 1000000 in
theorem lifted (os : Os) (started : os.Started) (H : Type) (enc : TypeId × Value → H) (F : Stop.Interp) :
    ReturnsInHanded {} Try.checked os 3 .any ((OpenSpec.ofChange Rows.fnExactPushSpec).preRow enc Try.prog Try.f3 Rows.fnExactPushRow.domain false Rows.fnExactPushRow.laid) (((OpenSpec.ofChange Rows.fnExactPushSpec).at F).post enc Try.prog Try.f3 false true false false) := by
  obtain ⟨places, hx⟩ := reads os enc
  refine returnsInHanded_of_row (C := Try.checked) (s := OpenSpec.ofChange Rows.fnExactPushSpec) own started (by kernel_rfl) Try.func3
    (witness_row_at (enc := enc) (C := Try.checked) false (laidWorld (World.holding Try.prog os ⟨#[], #[], []⟩)) #[.agg #[.int .i64 0, .int .i64 0, .int .i64 0, .int .i64 0, .string ByteArray.empty, .int .i64 0, .int .i64 0, .bool false, .string ByteArray.empty, .slice none 0 0, .bool false, .int .i64 0, .int .i64 0], .int .i64 0] rfl (by kernel_rfl) (by kernel_rfl) (by kernel_rfl)
      (OpenSpec.preRow_of_cond 8 hx (by kernel_rfl) (fun k hk => by cases hk) (by kernel_rfl) (laid_met os))) ?_
  intro W base args ds gs before hval hW _ _ _ hL _ _
  exact contract H enc W base args ds gs before hval hW hL

theorem said : Rows.FnExactPushSaid :=
  OpenClaim.holds_of_cond 3 Try.f3 rfl rfl rfl rfl rfl rfl rfl ⟨rfl, rfl, rfl, rfl, rfl⟩ rfl rfl rfl rfl rfl (by kernel_rfl) Try.func3 (by kernel_rfl)
    (of_decide_eq_true (by kernel_rfl)) (by unfold Func.isWrapper; first | (rw [if_pos (by decide +kernel)]; kernel_rfl) | (rw [if_neg (by decide +kernel)]; exact ⟨rfl, rfl⟩))
    (fun os started H enc _ F => by rw [OpenClaim.pre_eq_preRow]; exact lifted os started H enc F)

end Go.Proofs.Ytcmcmhiodkjflaa.fnExactPush
