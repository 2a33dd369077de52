/-
  For every argument, laws.FnExactWrite returns true: impl.Write and spec.Write answer alike, no argument is written, the answer owns its memory; nothing that was in memory is written.
-/
import Derived.Test.YthbdkfdcbglpoaaRows
import Derived.Test.YthbdkfdcbglpoaaOpenStr
import Derived.Test.YthbdkfdcbglpoaaSzStr
import Derived.Test.YthbdkfdcbglpoaaToStr
import Derived.Test.YthbdkfdcbglpoaaEqStr
import Derived.Test.YthbdkfdcbglpoaaMarkStr
import Derived.Test.YthbdkfdcbglpoaaLateLen
import Derived.Test.YthbdkfdcbglpoaaWriteS
import Derived.Test.YthbdkfdcbglpoaaWriteI
import Derived.Deep.RegionWith
import Derived.Deep.DeepCutAuto
import Derived.WalkSmall
import Derived.WalkKit
import Derived.ProofKit
import Derived.OpenShut
import Derived.OpenVars
import Derived.Deep.DeepHandedRow
import Derived.Lib.LaidTab
import Derived.Stop.LaidErr
namespace Go.Proofs.Ythbdkfdcbglpoaa.fnExactWrite
open Go.ChangeShapes Go.WideShapes Go.ChangeAt Go.ChangeMaps Go.RowKit

set_option maxRecDepth 1000000 in
set_option maxHeartbeats 8000000 in
theorem walk (d : StrD) (hd : d.Fits) (ao : Option Addr) (cap : Nat) (hl : d.late.length ≤ maxLen) (hf : LatesFit d.late) (x : ByteArray) (hxm : x.size ≤ maxLen) (w : World) (ha : LatesAt w ao d.late) :
    Calls Try.prog 5 #[.agg #[.int .i64 d.st, .int .i64 d.iss, .int .i64 d.una, .int .i64 d.rcv, .string d.wait, .int .i64 d.sent, .int .i64 d.fin, .bool d.pf, .string d.inn, .slice ao d.late.length cap, .bool d.owe, .int .i64 d.due, .int .i64 d.times], .string x] w fun e w' => e = .returned (.bool true) ∧ Below w.heap.size w w' := by
  have HA := hid ha
  have X_p := hid (show BlockIs (w.alloc (.cells #[.int .i64 d.st, .int .i64 d.iss, .int .i64 d.una, .int .i64 d.rcv, .string d.wait, .int .i64 d.sent, .int .i64 d.fin, .bool d.pf, .string d.inn, .slice ao d.late.length cap, .bool d.owe, .int .i64 d.due, .int .i64 d.times] 32)) w.heap.size 32 [.int .i64 d.st, .int .i64 d.iss, .int .i64 d.una, .int .i64 d.rcv, .string d.wait, .int .i64 d.sent, .int .i64 d.fin, .bool d.pf, .string d.inn, .slice ao d.late.length cap, .bool d.owe, .int .i64 d.due, .int .i64 d.times] from heap_alloc_new w _)
  have B := hid (below_more (Below.refl w.heap.size w) (.cells #[.int .i64 d.st, .int .i64 d.iss, .int .i64 d.una, .int .i64 d.rcv, .string d.wait, .int .i64 d.sent, .int .i64 d.fin, .bool d.pf, .string d.inn, .slice ao d.late.length cap, .bool d.owe, .int .i64 d.due, .int .i64 d.times] 32))
  have O0 := hid X_p.out.lt
  clear ha
  unfold maxLen at hxm
  by_cases hxg : 1048576 < x.size
  · have hxl2 : (1048576 : Int) < (x.size : Int) := by omega
    go_enter Try.func5, Try.ntmps5
    go_wp2
    go_ret
    exact ⟨rfl, B.out⟩
  have hxl : x.size ≤ 1048576 := by omega
  go_enter Try.func5, Try.ntmps5
  go_wp2_with fail
  refine Calls.mono (szStream_any d ao cap hd hl hf _ (HA.out.on B.out)) ?_
  rintro e w1 ⟨hor, b1⟩
  have O1 := hid b1.size
  have X_p_1 := hid (X_p.out.on b1 X_p.out.lt)
  have B_1 := hid (below_via B.out b1)
  clear b1 X_p B
  have cX_p0_1 := X_p_1.out.cell (j := 0) rfl
  have cX_p1_1 := X_p_1.out.cell (j := 1) rfl
  have cX_p2_1 := X_p_1.out.cell (j := 2) rfl
  have cX_p3_1 := X_p_1.out.cell (j := 3) rfl
  have cX_p4_1 := X_p_1.out.cell (j := 4) rfl
  have cX_p5_1 := X_p_1.out.cell (j := 5) rfl
  have cX_p6_1 := X_p_1.out.cell (j := 6) rfl
  have cX_p7_1 := X_p_1.out.cell (j := 7) rfl
  have cX_p8_1 := X_p_1.out.cell (j := 8) rfl
  have cX_p9_1 := X_p_1.out.cell (j := 9) rfl
  have cX_p10_1 := X_p_1.out.cell (j := 10) rfl
  have cX_p11_1 := X_p_1.out.cell (j := 11) rfl
  have cX_p12_1 := X_p_1.out.cell (j := 12) rfl
  rcases hor with ⟨hneg, rfl⟩ | ⟨hnn, rfl⟩
  · go_wp2
    go_ret
    exact ⟨rfl, B_1.out⟩
  have hl2 := (strSmall hnn).late
  have HSM := hid (strSmall hnn)
  have hnp := strBulk_nonneg d
  clear hf hl
  obtain ⟨OK, hOK⟩ : ∃ y, mayWrite d x = y := ⟨_, rfl⟩
  obtain ⟨D, hF⟩ : ∃ A, writeD d x = A := ⟨_, rfl⟩
  have hA2 : D.late.length ≤ 1048576 := by rw [← hF]; have := (writeD_late d x); omega
  go_wp2_with fail
  refine Calls.mono (toStream_o d ao cap hl2 _ (HA.out.on B_1.out)) ?_
  rintro e w2 ⟨v2, c2, rfl, hc2, h2, b2⟩
  have O2 := hid b2.size
  have Y2 := hid h2
  clear h2 hc2
  have X_p_2 := hid (X_p_1.out.on b2 X_p_1.out.lt)
  have B_2 := hid (below_via B_1.out b2)
  clear b2 X_p_1 B_1 cX_p0_1 cX_p1_1 cX_p2_1 cX_p3_1 cX_p4_1 cX_p5_1 cX_p6_1 cX_p7_1 cX_p8_1 cX_p9_1 cX_p10_1 cX_p11_1 cX_p12_1
  have cX_p0_2 := X_p_2.out.cell (j := 0) rfl
  have cX_p1_2 := X_p_2.out.cell (j := 1) rfl
  have cX_p2_2 := X_p_2.out.cell (j := 2) rfl
  have cX_p3_2 := X_p_2.out.cell (j := 3) rfl
  have cX_p4_2 := X_p_2.out.cell (j := 4) rfl
  have cX_p5_2 := X_p_2.out.cell (j := 5) rfl
  have cX_p6_2 := X_p_2.out.cell (j := 6) rfl
  have cX_p7_2 := X_p_2.out.cell (j := 7) rfl
  have cX_p8_2 := X_p_2.out.cell (j := 8) rfl
  have cX_p9_2 := X_p_2.out.cell (j := 9) rfl
  have cX_p10_2 := X_p_2.out.cell (j := 10) rfl
  have cX_p11_2 := X_p_2.out.cell (j := 11) rfl
  have cX_p12_2 := X_p_2.out.cell (j := 12) rfl
  have CQ := hid (specWrite_any d _ c2 HSM.out x hxl _ Y2.out.lates)
  unfold StrDid2 at CQ
  rw [hF, hOK] at CQ
  go_wp2_with fail
  refine Calls.mono (CQ.out) ?_
  rintro e w3 ⟨v3, c3, rfl, hvc3, h3, b3⟩
  have O3 := hid b3.size
  have R_w := hid h3
  clear h3 hvc3 CQ
  have X_p_3 := hid (X_p_2.out.on b3 X_p_2.out.lt)
  have B_3 := hid (below_via B_2.out b3)
  have Y2_3 := hid (Y2.out.on b3)
  clear b3 X_p_2 B_2 Y2 cX_p0_2 cX_p1_2 cX_p2_2 cX_p3_2 cX_p4_2 cX_p5_2 cX_p6_2 cX_p7_2 cX_p8_2 cX_p9_2 cX_p10_2 cX_p11_2 cX_p12_2
  have cX_p0_3 := X_p_3.out.cell (j := 0) rfl
  have cX_p1_3 := X_p_3.out.cell (j := 1) rfl
  have cX_p2_3 := X_p_3.out.cell (j := 2) rfl
  have cX_p3_3 := X_p_3.out.cell (j := 3) rfl
  have cX_p4_3 := X_p_3.out.cell (j := 4) rfl
  have cX_p5_3 := X_p_3.out.cell (j := 5) rfl
  have cX_p6_3 := X_p_3.out.cell (j := 6) rfl
  have cX_p7_3 := X_p_3.out.cell (j := 7) rfl
  have cX_p8_3 := X_p_3.out.cell (j := 8) rfl
  have cX_p9_3 := X_p_3.out.cell (j := 9) rfl
  have cX_p10_3 := X_p_3.out.cell (j := 10) rfl
  have cX_p11_3 := X_p_3.out.cell (j := 11) rfl
  have cX_p12_3 := X_p_3.out.cell (j := 12) rfl
  clear Y2_3
  have ba := below_more (Below.refl w3.heap.size w3) (.cells #[.int .i64 D.st, .int .i64 D.iss, .int .i64 D.una, .int .i64 D.rcv, .string D.wait, .int .i64 D.sent, .int .i64 D.fin, .bool D.pf, .string D.inn, .slice v3 D.late.length c3, .bool D.owe, .int .i64 D.due, .int .i64 D.times] 24)
  have hx : BlockIs (w3.alloc (.cells #[.int .i64 D.st, .int .i64 D.iss, .int .i64 D.una, .int .i64 D.rcv, .string D.wait, .int .i64 D.sent, .int .i64 D.fin, .bool D.pf, .string D.inn, .slice v3 D.late.length c3, .bool D.owe, .int .i64 D.due, .int .i64 D.times] 24)) w3.heap.size 24 [.int .i64 D.st, .int .i64 D.iss, .int .i64 D.una, .int .i64 D.rcv, .string D.wait, .int .i64 D.sent, .int .i64 D.fin, .bool D.pf, .string D.inn, .slice v3 D.late.length c3, .bool D.owe, .int .i64 D.due, .int .i64 D.times] := heap_alloc_new w3 _
  have X_p_3a := hid (X_p_3.out.on ba X_p_3.out.lt)
  have B_3a := hid (below_via B_3.out ba)
  have R_w_3a := hid (R_w.out.on ba)
  have X_w_3a := hid hx
  have O3a := hid hx.lt
  clear ba hx X_p_3 B_3 R_w
  have cX_p0_3a := X_p_3a.out.cell (j := 0) rfl
  have cX_p1_3a := X_p_3a.out.cell (j := 1) rfl
  have cX_p2_3a := X_p_3a.out.cell (j := 2) rfl
  have cX_p3_3a := X_p_3a.out.cell (j := 3) rfl
  have cX_p4_3a := X_p_3a.out.cell (j := 4) rfl
  have cX_p5_3a := X_p_3a.out.cell (j := 5) rfl
  have cX_p6_3a := X_p_3a.out.cell (j := 6) rfl
  have cX_p7_3a := X_p_3a.out.cell (j := 7) rfl
  have cX_p8_3a := X_p_3a.out.cell (j := 8) rfl
  have cX_p9_3a := X_p_3a.out.cell (j := 9) rfl
  have cX_p10_3a := X_p_3a.out.cell (j := 10) rfl
  have cX_p11_3a := X_p_3a.out.cell (j := 11) rfl
  have cX_p12_3a := X_p_3a.out.cell (j := 12) rfl
  have cX_w0_3a := X_w_3a.out.cell (j := 0) rfl
  have cX_w1_3a := X_w_3a.out.cell (j := 1) rfl
  have cX_w2_3a := X_w_3a.out.cell (j := 2) rfl
  have cX_w3_3a := X_w_3a.out.cell (j := 3) rfl
  have cX_w4_3a := X_w_3a.out.cell (j := 4) rfl
  have cX_w5_3a := X_w_3a.out.cell (j := 5) rfl
  have cX_w6_3a := X_w_3a.out.cell (j := 6) rfl
  have cX_w7_3a := X_w_3a.out.cell (j := 7) rfl
  have cX_w8_3a := X_w_3a.out.cell (j := 8) rfl
  have cX_w9_3a := X_w_3a.out.cell (j := 9) rfl
  have cX_w10_3a := X_w_3a.out.cell (j := 10) rfl
  have cX_w11_3a := X_w_3a.out.cell (j := 11) rfl
  have cX_w12_3a := X_w_3a.out.cell (j := 12) rfl
  go_wp2_with fail
  refine Calls.mono (toStream_o d ao cap hl2 _ (HA.out.on B_3a.out)) ?_
  rintro e w4 ⟨v4, c4, rfl, hc4, h4, b4⟩
  have O4 := hid b4.size
  have Y4 := hid h4
  clear h4 hc4
  have X_p_4 := hid (X_p_3a.out.on b4 X_p_3a.out.lt)
  have B_4 := hid (below_via B_3a.out b4)
  have R_w_4 := hid (R_w_3a.out.on b4)
  have X_w_4 := hid (X_w_3a.out.on b4 X_w_3a.out.lt)
  clear b4 X_p_3a B_3a R_w_3a X_w_3a cX_p0_3a cX_p1_3a cX_p2_3a cX_p3_3a cX_p4_3a cX_p5_3a cX_p6_3a cX_p7_3a cX_p8_3a cX_p9_3a cX_p10_3a cX_p11_3a cX_p12_3a cX_w0_3a cX_w1_3a cX_w2_3a cX_w3_3a cX_w4_3a cX_w5_3a cX_w6_3a cX_w7_3a cX_w8_3a cX_w9_3a cX_w10_3a cX_w11_3a cX_w12_3a cX_p0_3 cX_p1_3 cX_p2_3 cX_p3_3 cX_p4_3 cX_p5_3 cX_p6_3 cX_p7_3 cX_p8_3 cX_p9_3 cX_p10_3 cX_p11_3 cX_p12_3
  have cX_p0_4 := X_p_4.out.cell (j := 0) rfl
  have cX_p1_4 := X_p_4.out.cell (j := 1) rfl
  have cX_p2_4 := X_p_4.out.cell (j := 2) rfl
  have cX_p3_4 := X_p_4.out.cell (j := 3) rfl
  have cX_p4_4 := X_p_4.out.cell (j := 4) rfl
  have cX_p5_4 := X_p_4.out.cell (j := 5) rfl
  have cX_p6_4 := X_p_4.out.cell (j := 6) rfl
  have cX_p7_4 := X_p_4.out.cell (j := 7) rfl
  have cX_p8_4 := X_p_4.out.cell (j := 8) rfl
  have cX_p9_4 := X_p_4.out.cell (j := 9) rfl
  have cX_p10_4 := X_p_4.out.cell (j := 10) rfl
  have cX_p11_4 := X_p_4.out.cell (j := 11) rfl
  have cX_p12_4 := X_p_4.out.cell (j := 12) rfl
  have cX_w0_4 := X_w_4.out.cell (j := 0) rfl
  have cX_w1_4 := X_w_4.out.cell (j := 1) rfl
  have cX_w2_4 := X_w_4.out.cell (j := 2) rfl
  have cX_w3_4 := X_w_4.out.cell (j := 3) rfl
  have cX_w4_4 := X_w_4.out.cell (j := 4) rfl
  have cX_w5_4 := X_w_4.out.cell (j := 5) rfl
  have cX_w6_4 := X_w_4.out.cell (j := 6) rfl
  have cX_w7_4 := X_w_4.out.cell (j := 7) rfl
  have cX_w8_4 := X_w_4.out.cell (j := 8) rfl
  have cX_w9_4 := X_w_4.out.cell (j := 9) rfl
  have cX_w10_4 := X_w_4.out.cell (j := 10) rfl
  have cX_w11_4 := X_w_4.out.cell (j := 11) rfl
  have cX_w12_4 := X_w_4.out.cell (j := 12) rfl
  have ba := below_more (Below.refl w4.heap.size w4) (.cells #[.int .i64 d.st, .int .i64 d.iss, .int .i64 d.una, .int .i64 d.rcv, .string d.wait, .int .i64 d.sent, .int .i64 d.fin, .bool d.pf, .string d.inn, .slice v4 d.late.length c4, .bool d.owe, .int .i64 d.due, .int .i64 d.times] 24)
  have hx : BlockIs (w4.alloc (.cells #[.int .i64 d.st, .int .i64 d.iss, .int .i64 d.una, .int .i64 d.rcv, .string d.wait, .int .i64 d.sent, .int .i64 d.fin, .bool d.pf, .string d.inn, .slice v4 d.late.length c4, .bool d.owe, .int .i64 d.due, .int .i64 d.times] 24)) w4.heap.size 24 [.int .i64 d.st, .int .i64 d.iss, .int .i64 d.una, .int .i64 d.rcv, .string d.wait, .int .i64 d.sent, .int .i64 d.fin, .bool d.pf, .string d.inn, .slice v4 d.late.length c4, .bool d.owe, .int .i64 d.due, .int .i64 d.times] := heap_alloc_new w4 _
  have X_p_4a := hid (X_p_4.out.on ba X_p_4.out.lt)
  have B_4a := hid (below_via B_4.out ba)
  have R_w_4a := hid (R_w_4.out.on ba)
  have X_w_4a := hid (X_w_4.out.on ba X_w_4.out.lt)
  have Y4_4a := hid (Y4.out.on ba)
  have X_x_4a := hid hx
  have O4a := hid hx.lt
  clear ba hx X_p_4 B_4 R_w_4 X_w_4 Y4
  have cX_p0_4a := X_p_4a.out.cell (j := 0) rfl
  have cX_p1_4a := X_p_4a.out.cell (j := 1) rfl
  have cX_p2_4a := X_p_4a.out.cell (j := 2) rfl
  have cX_p3_4a := X_p_4a.out.cell (j := 3) rfl
  have cX_p4_4a := X_p_4a.out.cell (j := 4) rfl
  have cX_p5_4a := X_p_4a.out.cell (j := 5) rfl
  have cX_p6_4a := X_p_4a.out.cell (j := 6) rfl
  have cX_p7_4a := X_p_4a.out.cell (j := 7) rfl
  have cX_p8_4a := X_p_4a.out.cell (j := 8) rfl
  have cX_p9_4a := X_p_4a.out.cell (j := 9) rfl
  have cX_p10_4a := X_p_4a.out.cell (j := 10) rfl
  have cX_p11_4a := X_p_4a.out.cell (j := 11) rfl
  have cX_p12_4a := X_p_4a.out.cell (j := 12) rfl
  have cX_w0_4a := X_w_4a.out.cell (j := 0) rfl
  have cX_w1_4a := X_w_4a.out.cell (j := 1) rfl
  have cX_w2_4a := X_w_4a.out.cell (j := 2) rfl
  have cX_w3_4a := X_w_4a.out.cell (j := 3) rfl
  have cX_w4_4a := X_w_4a.out.cell (j := 4) rfl
  have cX_w5_4a := X_w_4a.out.cell (j := 5) rfl
  have cX_w6_4a := X_w_4a.out.cell (j := 6) rfl
  have cX_w7_4a := X_w_4a.out.cell (j := 7) rfl
  have cX_w8_4a := X_w_4a.out.cell (j := 8) rfl
  have cX_w9_4a := X_w_4a.out.cell (j := 9) rfl
  have cX_w10_4a := X_w_4a.out.cell (j := 10) rfl
  have cX_w11_4a := X_w_4a.out.cell (j := 11) rfl
  have cX_w12_4a := X_w_4a.out.cell (j := 12) rfl
  have cX_x0_4a := X_x_4a.out.cell (j := 0) rfl
  have cX_x1_4a := X_x_4a.out.cell (j := 1) rfl
  have cX_x2_4a := X_x_4a.out.cell (j := 2) rfl
  have cX_x3_4a := X_x_4a.out.cell (j := 3) rfl
  have cX_x4_4a := X_x_4a.out.cell (j := 4) rfl
  have cX_x5_4a := X_x_4a.out.cell (j := 5) rfl
  have cX_x6_4a := X_x_4a.out.cell (j := 6) rfl
  have cX_x7_4a := X_x_4a.out.cell (j := 7) rfl
  have cX_x8_4a := X_x_4a.out.cell (j := 8) rfl
  have cX_x9_4a := X_x_4a.out.cell (j := 9) rfl
  have cX_x10_4a := X_x_4a.out.cell (j := 10) rfl
  have cX_x11_4a := X_x_4a.out.cell (j := 11) rfl
  have cX_x12_4a := X_x_4a.out.cell (j := 12) rfl
  have CQ := hid (implWrite_any d _ c4 HSM.out x hxl _ Y4_4a.out.lates)
  unfold StrDid2 at CQ
  rw [hF, hOK] at CQ
  go_wp2_with fail
  refine Calls.mono (CQ.out) ?_
  rintro e w5 ⟨v5, c5, rfl, hvc5, h5, b5⟩
  have O5 := hid b5.size
  have R_g := hid h5
  clear h5 hvc5 CQ
  have X_p_5 := hid (X_p_4a.out.on b5 X_p_4a.out.lt)
  have B_5 := hid (below_via B_4a.out b5)
  have R_w_5 := hid (R_w_4a.out.on b5)
  have X_w_5 := hid (X_w_4a.out.on b5 X_w_4a.out.lt)
  have Y4_5 := hid (Y4_4a.out.on b5)
  have X_x_5 := hid (X_x_4a.out.on b5 X_x_4a.out.lt)
  clear b5 X_p_4a B_4a R_w_4a X_w_4a Y4_4a X_x_4a cX_p0_4a cX_p1_4a cX_p2_4a cX_p3_4a cX_p4_4a cX_p5_4a cX_p6_4a cX_p7_4a cX_p8_4a cX_p9_4a cX_p10_4a cX_p11_4a cX_p12_4a cX_w0_4a cX_w1_4a cX_w2_4a cX_w3_4a cX_w4_4a cX_w5_4a cX_w6_4a cX_w7_4a cX_w8_4a cX_w9_4a cX_w10_4a cX_w11_4a cX_w12_4a cX_x0_4a cX_x1_4a cX_x2_4a cX_x3_4a cX_x4_4a cX_x5_4a cX_x6_4a cX_x7_4a cX_x8_4a cX_x9_4a cX_x10_4a cX_x11_4a cX_x12_4a cX_p0_4 cX_p1_4 cX_p2_4 cX_p3_4 cX_p4_4 cX_p5_4 cX_p6_4 cX_p7_4 cX_p8_4 cX_p9_4 cX_p10_4 cX_p11_4 cX_p12_4 cX_w0_4 cX_w1_4 cX_w2_4 cX_w3_4 cX_w4_4 cX_w5_4 cX_w6_4 cX_w7_4 cX_w8_4 cX_w9_4 cX_w10_4 cX_w11_4 cX_w12_4
  have cX_p0_5 := X_p_5.out.cell (j := 0) rfl
  have cX_p1_5 := X_p_5.out.cell (j := 1) rfl
  have cX_p2_5 := X_p_5.out.cell (j := 2) rfl
  have cX_p3_5 := X_p_5.out.cell (j := 3) rfl
  have cX_p4_5 := X_p_5.out.cell (j := 4) rfl
  have cX_p5_5 := X_p_5.out.cell (j := 5) rfl
  have cX_p6_5 := X_p_5.out.cell (j := 6) rfl
  have cX_p7_5 := X_p_5.out.cell (j := 7) rfl
  have cX_p8_5 := X_p_5.out.cell (j := 8) rfl
  have cX_p9_5 := X_p_5.out.cell (j := 9) rfl
  have cX_p10_5 := X_p_5.out.cell (j := 10) rfl
  have cX_p11_5 := X_p_5.out.cell (j := 11) rfl
  have cX_p12_5 := X_p_5.out.cell (j := 12) rfl
  have cX_w0_5 := X_w_5.out.cell (j := 0) rfl
  have cX_w1_5 := X_w_5.out.cell (j := 1) rfl
  have cX_w2_5 := X_w_5.out.cell (j := 2) rfl
  have cX_w3_5 := X_w_5.out.cell (j := 3) rfl
  have cX_w4_5 := X_w_5.out.cell (j := 4) rfl
  have cX_w5_5 := X_w_5.out.cell (j := 5) rfl
  have cX_w6_5 := X_w_5.out.cell (j := 6) rfl
  have cX_w7_5 := X_w_5.out.cell (j := 7) rfl
  have cX_w8_5 := X_w_5.out.cell (j := 8) rfl
  have cX_w9_5 := X_w_5.out.cell (j := 9) rfl
  have cX_w10_5 := X_w_5.out.cell (j := 10) rfl
  have cX_w11_5 := X_w_5.out.cell (j := 11) rfl
  have cX_w12_5 := X_w_5.out.cell (j := 12) rfl
  have cX_x0_5 := X_x_5.out.cell (j := 0) rfl
  have cX_x1_5 := X_x_5.out.cell (j := 1) rfl
  have cX_x2_5 := X_x_5.out.cell (j := 2) rfl
  have cX_x3_5 := X_x_5.out.cell (j := 3) rfl
  have cX_x4_5 := X_x_5.out.cell (j := 4) rfl
  have cX_x5_5 := X_x_5.out.cell (j := 5) rfl
  have cX_x6_5 := X_x_5.out.cell (j := 6) rfl
  have cX_x7_5 := X_x_5.out.cell (j := 7) rfl
  have cX_x8_5 := X_x_5.out.cell (j := 8) rfl
  have cX_x9_5 := X_x_5.out.cell (j := 9) rfl
  have cX_x10_5 := X_x_5.out.cell (j := 10) rfl
  have cX_x11_5 := X_x_5.out.cell (j := 11) rfl
  have cX_x12_5 := X_x_5.out.cell (j := 12) rfl
  have ba := below_more (Below.refl w5.heap.size w5) (.cells #[.int .i64 D.st, .int .i64 D.iss, .int .i64 D.una, .int .i64 D.rcv, .string D.wait, .int .i64 D.sent, .int .i64 D.fin, .bool D.pf, .string D.inn, .slice v5 D.late.length c5, .bool D.owe, .int .i64 D.due, .int .i64 D.times] 24)
  have hx : BlockIs (w5.alloc (.cells #[.int .i64 D.st, .int .i64 D.iss, .int .i64 D.una, .int .i64 D.rcv, .string D.wait, .int .i64 D.sent, .int .i64 D.fin, .bool D.pf, .string D.inn, .slice v5 D.late.length c5, .bool D.owe, .int .i64 D.due, .int .i64 D.times] 24)) w5.heap.size 24 [.int .i64 D.st, .int .i64 D.iss, .int .i64 D.una, .int .i64 D.rcv, .string D.wait, .int .i64 D.sent, .int .i64 D.fin, .bool D.pf, .string D.inn, .slice v5 D.late.length c5, .bool D.owe, .int .i64 D.due, .int .i64 D.times] := heap_alloc_new w5 _
  have X_p_5a := hid (X_p_5.out.on ba X_p_5.out.lt)
  have B_5a := hid (below_via B_5.out ba)
  have R_w_5a := hid (R_w_5.out.on ba)
  have X_w_5a := hid (X_w_5.out.on ba X_w_5.out.lt)
  have Y4_5a := hid (Y4_5.out.on ba)
  have X_x_5a := hid (X_x_5.out.on ba X_x_5.out.lt)
  have R_g_5a := hid (R_g.out.on ba)
  have X_g_5a := hid hx
  have O5a := hid hx.lt
  clear ba hx X_p_5 B_5 R_w_5 X_w_5 Y4_5 X_x_5 R_g
  have cX_p0_5a := X_p_5a.out.cell (j := 0) rfl
  have cX_p1_5a := X_p_5a.out.cell (j := 1) rfl
  have cX_p2_5a := X_p_5a.out.cell (j := 2) rfl
  have cX_p3_5a := X_p_5a.out.cell (j := 3) rfl
  have cX_p4_5a := X_p_5a.out.cell (j := 4) rfl
  have cX_p5_5a := X_p_5a.out.cell (j := 5) rfl
  have cX_p6_5a := X_p_5a.out.cell (j := 6) rfl
  have cX_p7_5a := X_p_5a.out.cell (j := 7) rfl
  have cX_p8_5a := X_p_5a.out.cell (j := 8) rfl
  have cX_p9_5a := X_p_5a.out.cell (j := 9) rfl
  have cX_p10_5a := X_p_5a.out.cell (j := 10) rfl
  have cX_p11_5a := X_p_5a.out.cell (j := 11) rfl
  have cX_p12_5a := X_p_5a.out.cell (j := 12) rfl
  have cX_w0_5a := X_w_5a.out.cell (j := 0) rfl
  have cX_w1_5a := X_w_5a.out.cell (j := 1) rfl
  have cX_w2_5a := X_w_5a.out.cell (j := 2) rfl
  have cX_w3_5a := X_w_5a.out.cell (j := 3) rfl
  have cX_w4_5a := X_w_5a.out.cell (j := 4) rfl
  have cX_w5_5a := X_w_5a.out.cell (j := 5) rfl
  have cX_w6_5a := X_w_5a.out.cell (j := 6) rfl
  have cX_w7_5a := X_w_5a.out.cell (j := 7) rfl
  have cX_w8_5a := X_w_5a.out.cell (j := 8) rfl
  have cX_w9_5a := X_w_5a.out.cell (j := 9) rfl
  have cX_w10_5a := X_w_5a.out.cell (j := 10) rfl
  have cX_w11_5a := X_w_5a.out.cell (j := 11) rfl
  have cX_w12_5a := X_w_5a.out.cell (j := 12) rfl
  have cX_x0_5a := X_x_5a.out.cell (j := 0) rfl
  have cX_x1_5a := X_x_5a.out.cell (j := 1) rfl
  have cX_x2_5a := X_x_5a.out.cell (j := 2) rfl
  have cX_x3_5a := X_x_5a.out.cell (j := 3) rfl
  have cX_x4_5a := X_x_5a.out.cell (j := 4) rfl
  have cX_x5_5a := X_x_5a.out.cell (j := 5) rfl
  have cX_x6_5a := X_x_5a.out.cell (j := 6) rfl
  have cX_x7_5a := X_x_5a.out.cell (j := 7) rfl
  have cX_x8_5a := X_x_5a.out.cell (j := 8) rfl
  have cX_x9_5a := X_x_5a.out.cell (j := 9) rfl
  have cX_x10_5a := X_x_5a.out.cell (j := 10) rfl
  have cX_x11_5a := X_x_5a.out.cell (j := 11) rfl
  have cX_x12_5a := X_x_5a.out.cell (j := 12) rfl
  have cX_g0_5a := X_g_5a.out.cell (j := 0) rfl
  have cX_g1_5a := X_g_5a.out.cell (j := 1) rfl
  have cX_g2_5a := X_g_5a.out.cell (j := 2) rfl
  have cX_g3_5a := X_g_5a.out.cell (j := 3) rfl
  have cX_g4_5a := X_g_5a.out.cell (j := 4) rfl
  have cX_g5_5a := X_g_5a.out.cell (j := 5) rfl
  have cX_g6_5a := X_g_5a.out.cell (j := 6) rfl
  have cX_g7_5a := X_g_5a.out.cell (j := 7) rfl
  have cX_g8_5a := X_g_5a.out.cell (j := 8) rfl
  have cX_g9_5a := X_g_5a.out.cell (j := 9) rfl
  have cX_g10_5a := X_g_5a.out.cell (j := 10) rfl
  have cX_g11_5a := X_g_5a.out.cell (j := 11) rfl
  have cX_g12_5a := X_g_5a.out.cell (j := 12) rfl
  go_wp2_with fail
  refine Calls.mono (eqStream_same D v5 v3 c5 c3 (by omega) _ R_g_5a.out.lates R_w_5a.out.lates) ?_
  rintro e w6 ⟨rfl, b6⟩
  have O6 := hid b6.size
  have X_p_6 := hid (X_p_5a.out.on b6 X_p_5a.out.lt)
  have B_6 := hid (below_via B_5a.out b6)
  have R_w_6 := hid (R_w_5a.out.on b6)
  have X_w_6 := hid (X_w_5a.out.on b6 X_w_5a.out.lt)
  have Y4_6 := hid (Y4_5a.out.on b6)
  have X_x_6 := hid (X_x_5a.out.on b6 X_x_5a.out.lt)
  have R_g_6 := hid (R_g_5a.out.on b6)
  have X_g_6 := hid (X_g_5a.out.on b6 X_g_5a.out.lt)
  clear b6 X_p_5a B_5a R_w_5a X_w_5a Y4_5a X_x_5a R_g_5a X_g_5a cX_p0_5a cX_p1_5a cX_p2_5a cX_p3_5a cX_p4_5a cX_p5_5a cX_p6_5a cX_p7_5a cX_p8_5a cX_p9_5a cX_p10_5a cX_p11_5a cX_p12_5a cX_w0_5a cX_w1_5a cX_w2_5a cX_w3_5a cX_w4_5a cX_w5_5a cX_w6_5a cX_w7_5a cX_w8_5a cX_w9_5a cX_w10_5a cX_w11_5a cX_w12_5a cX_x0_5a cX_x1_5a cX_x2_5a cX_x3_5a cX_x4_5a cX_x5_5a cX_x6_5a cX_x7_5a cX_x8_5a cX_x9_5a cX_x10_5a cX_x11_5a cX_x12_5a cX_g0_5a cX_g1_5a cX_g2_5a cX_g3_5a cX_g4_5a cX_g5_5a cX_g6_5a cX_g7_5a cX_g8_5a cX_g9_5a cX_g10_5a cX_g11_5a cX_g12_5a cX_p0_5 cX_p1_5 cX_p2_5 cX_p3_5 cX_p4_5 cX_p5_5 cX_p6_5 cX_p7_5 cX_p8_5 cX_p9_5 cX_p10_5 cX_p11_5 cX_p12_5 cX_w0_5 cX_w1_5 cX_w2_5 cX_w3_5 cX_w4_5 cX_w5_5 cX_w6_5 cX_w7_5 cX_w8_5 cX_w9_5 cX_w10_5 cX_w11_5 cX_w12_5 cX_x0_5 cX_x1_5 cX_x2_5 cX_x3_5 cX_x4_5 cX_x5_5 cX_x6_5 cX_x7_5 cX_x8_5 cX_x9_5 cX_x10_5 cX_x11_5 cX_x12_5
  have cX_p0_6 := X_p_6.out.cell (j := 0) rfl
  have cX_p1_6 := X_p_6.out.cell (j := 1) rfl
  have cX_p2_6 := X_p_6.out.cell (j := 2) rfl
  have cX_p3_6 := X_p_6.out.cell (j := 3) rfl
  have cX_p4_6 := X_p_6.out.cell (j := 4) rfl
  have cX_p5_6 := X_p_6.out.cell (j := 5) rfl
  have cX_p6_6 := X_p_6.out.cell (j := 6) rfl
  have cX_p7_6 := X_p_6.out.cell (j := 7) rfl
  have cX_p8_6 := X_p_6.out.cell (j := 8) rfl
  have cX_p9_6 := X_p_6.out.cell (j := 9) rfl
  have cX_p10_6 := X_p_6.out.cell (j := 10) rfl
  have cX_p11_6 := X_p_6.out.cell (j := 11) rfl
  have cX_p12_6 := X_p_6.out.cell (j := 12) rfl
  have cX_w0_6 := X_w_6.out.cell (j := 0) rfl
  have cX_w1_6 := X_w_6.out.cell (j := 1) rfl
  have cX_w2_6 := X_w_6.out.cell (j := 2) rfl
  have cX_w3_6 := X_w_6.out.cell (j := 3) rfl
  have cX_w4_6 := X_w_6.out.cell (j := 4) rfl
  have cX_w5_6 := X_w_6.out.cell (j := 5) rfl
  have cX_w6_6 := X_w_6.out.cell (j := 6) rfl
  have cX_w7_6 := X_w_6.out.cell (j := 7) rfl
  have cX_w8_6 := X_w_6.out.cell (j := 8) rfl
  have cX_w9_6 := X_w_6.out.cell (j := 9) rfl
  have cX_w10_6 := X_w_6.out.cell (j := 10) rfl
  have cX_w11_6 := X_w_6.out.cell (j := 11) rfl
  have cX_w12_6 := X_w_6.out.cell (j := 12) rfl
  have cX_x0_6 := X_x_6.out.cell (j := 0) rfl
  have cX_x1_6 := X_x_6.out.cell (j := 1) rfl
  have cX_x2_6 := X_x_6.out.cell (j := 2) rfl
  have cX_x3_6 := X_x_6.out.cell (j := 3) rfl
  have cX_x4_6 := X_x_6.out.cell (j := 4) rfl
  have cX_x5_6 := X_x_6.out.cell (j := 5) rfl
  have cX_x6_6 := X_x_6.out.cell (j := 6) rfl
  have cX_x7_6 := X_x_6.out.cell (j := 7) rfl
  have cX_x8_6 := X_x_6.out.cell (j := 8) rfl
  have cX_x9_6 := X_x_6.out.cell (j := 9) rfl
  have cX_x10_6 := X_x_6.out.cell (j := 10) rfl
  have cX_x11_6 := X_x_6.out.cell (j := 11) rfl
  have cX_x12_6 := X_x_6.out.cell (j := 12) rfl
  have cX_g0_6 := X_g_6.out.cell (j := 0) rfl
  have cX_g1_6 := X_g_6.out.cell (j := 1) rfl
  have cX_g2_6 := X_g_6.out.cell (j := 2) rfl
  have cX_g3_6 := X_g_6.out.cell (j := 3) rfl
  have cX_g4_6 := X_g_6.out.cell (j := 4) rfl
  have cX_g5_6 := X_g_6.out.cell (j := 5) rfl
  have cX_g6_6 := X_g_6.out.cell (j := 6) rfl
  have cX_g7_6 := X_g_6.out.cell (j := 7) rfl
  have cX_g8_6 := X_g_6.out.cell (j := 8) rfl
  have cX_g9_6 := X_g_6.out.cell (j := 9) rfl
  have cX_g10_6 := X_g_6.out.cell (j := 10) rfl
  have cX_g11_6 := X_g_6.out.cell (j := 11) rfl
  have cX_g12_6 := X_g_6.out.cell (j := 12) rfl
  have CT : Hid (Calls Try.prog 16 #[.agg #[.int .i64 d.st, .int .i64 d.iss, .int .i64 d.una, .int .i64 d.rcv, .string d.wait, .int .i64 d.sent, .int .i64 d.fin, .bool d.pf, .string d.inn, .slice ao d.late.length cap, .bool d.owe, .int .i64 d.due, .int .i64 d.times]] w6.drew fun e w7 => ∃ v7 c7, e = .returned (.agg #[.int .i64 d.st, .int .i64 d.iss, .int .i64 d.una, .int .i64 d.rcv, .string d.wait, .int .i64 d.sent, .int .i64 d.fin, .bool d.pf, .string d.inn, .slice v7 d.late.length c7, .bool d.owe, .int .i64 d.due, .int .i64 d.times]) ∧ (w7.cell? ⟨w4.heap.size, 0, none⟩ = some (.int .i64 d.st) ∧ w7.cell? ⟨w4.heap.size, 1, none⟩ = some (.int .i64 d.iss) ∧ w7.cell? ⟨w4.heap.size, 2, none⟩ = some (.int .i64 d.una) ∧ w7.cell? ⟨w4.heap.size, 3, none⟩ = some (.int .i64 d.rcv) ∧ w7.cell? ⟨w4.heap.size, 4, none⟩ = some (.string d.wait) ∧ w7.cell? ⟨w4.heap.size, 5, none⟩ = some (.int .i64 d.sent) ∧ w7.cell? ⟨w4.heap.size, 6, none⟩ = some (.int .i64 d.fin) ∧ w7.cell? ⟨w4.heap.size, 7, none⟩ = some (.bool d.pf) ∧ w7.cell? ⟨w4.heap.size, 8, none⟩ = some (.string d.inn) ∧ w7.cell? ⟨w4.heap.size, 9, none⟩ = some (.slice v4 d.late.length c4) ∧ w7.cell? ⟨w4.heap.size, 10, none⟩ = some (.bool d.owe) ∧ w7.cell? ⟨w4.heap.size, 11, none⟩ = some (.int .i64 d.due) ∧ w7.cell? ⟨w4.heap.size, 12, none⟩ = some (.int .i64 d.times)) ∧ Hid (Below w6.heap.size w6 w7 ∧ LatesAt w7 v7 d.late)) := by
    have hd : Below w6.heap.size w6 w6.drew := below_drewN (Below.refl _ _) 1
    refine Calls.mono (toStream_o d ao cap hl2 w6.drew (HA.out.on (below_via B_6.out hd))) ?_
    rintro e w7 ⟨v7, c7, rfl, _, h7, b7⟩
    have h67 := below_via hd b7
    have k67 := X_x_6.out.on h67 X_x_6.out.lt
    exact ⟨v7, c7, rfl, ⟨k67.cell (j := 0) rfl, k67.cell (j := 1) rfl, k67.cell (j := 2) rfl, k67.cell (j := 3) rfl, k67.cell (j := 4) rfl, k67.cell (j := 5) rfl, k67.cell (j := 6) rfl, k67.cell (j := 7) rfl, k67.cell (j := 8) rfl, k67.cell (j := 9) rfl, k67.cell (j := 10) rfl, k67.cell (j := 11) rfl, k67.cell (j := 12) rfl⟩, h67, h7.lates⟩
  go_upto_region 12 with fail
  go_cut [52] (fun c wx => c = .bool false ∧ Hid (Below w6.heap.size w6 wx))
  case first =>
    go_region_with (first | (go_at_call 16; refine Calls.mono CT.out ?_; rintro e w7 ⟨v7, c7, rfl, ⟨y0, y1, y2, y3, y4, y5, y6, y7, y8, y9, y10, y11, y12⟩, H7⟩) | (go_at_call 11; refine (eqStream_same d _ _ _ _ (by omega) _ ((Y4_6.out.on H7.out.1).lates) H7.out.2).mono ?_; rintro e w8 ⟨rfl, b8⟩))
    all_goals
      go_wp2_with fail
      go_meet
      exact ⟨rfl, below_via H7.out.1 b8⟩
  case rest =>
    obtain ⟨rfl, HC⟩ := hcut
    have bb := HC.out
    have O8 := hid bb.size
    have X_p_8 := hid (X_p_6.out.on bb X_p_6.out.lt)
    have B_8 := hid (below_via B_6.out bb)
    have R_w_8 := hid (R_w_6.out.on bb)
    have X_w_8 := hid (X_w_6.out.on bb X_w_6.out.lt)
    have Y4_8 := hid (Y4_6.out.on bb)
    have X_x_8 := hid (X_x_6.out.on bb X_x_6.out.lt)
    have R_g_8 := hid (R_g_6.out.on bb)
    have X_g_8 := hid (X_g_6.out.on bb X_g_6.out.lt)
    clear bb HC CT X_p_6 B_6 R_w_6 X_w_6 Y4_6 X_x_6 R_g_6 X_g_6 cX_p0_6 cX_p1_6 cX_p2_6 cX_p3_6 cX_p4_6 cX_p5_6 cX_p6_6 cX_p7_6 cX_p8_6 cX_p9_6 cX_p10_6 cX_p11_6 cX_p12_6 cX_w0_6 cX_w1_6 cX_w2_6 cX_w3_6 cX_w4_6 cX_w5_6 cX_w6_6 cX_w7_6 cX_w8_6 cX_w9_6 cX_w10_6 cX_w11_6 cX_w12_6 cX_x0_6 cX_x1_6 cX_x2_6 cX_x3_6 cX_x4_6 cX_x5_6 cX_x6_6 cX_x7_6 cX_x8_6 cX_x9_6 cX_x10_6 cX_x11_6 cX_x12_6 cX_g0_6 cX_g1_6 cX_g2_6 cX_g3_6 cX_g4_6 cX_g5_6 cX_g6_6 cX_g7_6 cX_g8_6 cX_g9_6 cX_g10_6 cX_g11_6 cX_g12_6
    have cX_p0_8 := X_p_8.out.cell (j := 0) rfl
    have cX_p1_8 := X_p_8.out.cell (j := 1) rfl
    have cX_p2_8 := X_p_8.out.cell (j := 2) rfl
    have cX_p3_8 := X_p_8.out.cell (j := 3) rfl
    have cX_p4_8 := X_p_8.out.cell (j := 4) rfl
    have cX_p5_8 := X_p_8.out.cell (j := 5) rfl
    have cX_p6_8 := X_p_8.out.cell (j := 6) rfl
    have cX_p7_8 := X_p_8.out.cell (j := 7) rfl
    have cX_p8_8 := X_p_8.out.cell (j := 8) rfl
    have cX_p9_8 := X_p_8.out.cell (j := 9) rfl
    have cX_p10_8 := X_p_8.out.cell (j := 10) rfl
    have cX_p11_8 := X_p_8.out.cell (j := 11) rfl
    have cX_p12_8 := X_p_8.out.cell (j := 12) rfl
    have cX_w0_8 := X_w_8.out.cell (j := 0) rfl
    have cX_w1_8 := X_w_8.out.cell (j := 1) rfl
    have cX_w2_8 := X_w_8.out.cell (j := 2) rfl
    have cX_w3_8 := X_w_8.out.cell (j := 3) rfl
    have cX_w4_8 := X_w_8.out.cell (j := 4) rfl
    have cX_w5_8 := X_w_8.out.cell (j := 5) rfl
    have cX_w6_8 := X_w_8.out.cell (j := 6) rfl
    have cX_w7_8 := X_w_8.out.cell (j := 7) rfl
    have cX_w8_8 := X_w_8.out.cell (j := 8) rfl
    have cX_w9_8 := X_w_8.out.cell (j := 9) rfl
    have cX_w10_8 := X_w_8.out.cell (j := 10) rfl
    have cX_w11_8 := X_w_8.out.cell (j := 11) rfl
    have cX_w12_8 := X_w_8.out.cell (j := 12) rfl
    have cX_x0_8 := X_x_8.out.cell (j := 0) rfl
    have cX_x1_8 := X_x_8.out.cell (j := 1) rfl
    have cX_x2_8 := X_x_8.out.cell (j := 2) rfl
    have cX_x3_8 := X_x_8.out.cell (j := 3) rfl
    have cX_x4_8 := X_x_8.out.cell (j := 4) rfl
    have cX_x5_8 := X_x_8.out.cell (j := 5) rfl
    have cX_x6_8 := X_x_8.out.cell (j := 6) rfl
    have cX_x7_8 := X_x_8.out.cell (j := 7) rfl
    have cX_x8_8 := X_x_8.out.cell (j := 8) rfl
    have cX_x9_8 := X_x_8.out.cell (j := 9) rfl
    have cX_x10_8 := X_x_8.out.cell (j := 10) rfl
    have cX_x11_8 := X_x_8.out.cell (j := 11) rfl
    have cX_x12_8 := X_x_8.out.cell (j := 12) rfl
    have cX_g0_8 := X_g_8.out.cell (j := 0) rfl
    have cX_g1_8 := X_g_8.out.cell (j := 1) rfl
    have cX_g2_8 := X_g_8.out.cell (j := 2) rfl
    have cX_g3_8 := X_g_8.out.cell (j := 3) rfl
    have cX_g4_8 := X_g_8.out.cell (j := 4) rfl
    have cX_g5_8 := X_g_8.out.cell (j := 5) rfl
    have cX_g6_8 := X_g_8.out.cell (j := 6) rfl
    have cX_g7_8 := X_g_8.out.cell (j := 7) rfl
    have cX_g8_8 := X_g_8.out.cell (j := 8) rfl
    have cX_g9_8 := X_g_8.out.cell (j := 9) rfl
    have cX_g10_8 := X_g_8.out.cell (j := 10) rfl
    have cX_g11_8 := X_g_8.out.cell (j := 11) rfl
    have cX_g12_8 := X_g_8.out.cell (j := 12) rfl
    go_wp2_with fail
    refine (markStream_o d 1 v4 c4 d.late ((w3.alloc (.cells #[.int .i64 D.st, .int .i64 D.iss, .int .i64 D.una, .int .i64 D.rcv, .string D.wait, .int .i64 D.sent, .int .i64 D.fin, .bool D.pf, .string D.inn, .slice v3 D.late.length c3, .bool D.owe, .int .i64 D.due, .int .i64 D.times] 24)).heap.size) (w4.heap.size) (by omega) (by omega) _ (by have := O0.out; have := O1.out; have := O2.out; have := O3.out; have := O3a.out; have := O4.out; have := O4a.out; have := O5.out; have := O5a.out; have := O6.out; have := O8.out; omega) Y4_8.out).mono ?_
    rintro e w9 ⟨rfl, hm9, kp, b9⟩
    have O9 := hid b9.size
    have X_p_9 := hid (X_p_8.out.kept kp (by have := O0.out; have := O1.out; have := O2.out; have := O3.out; have := O3a.out; have := O4.out; have := O4a.out; have := O5.out; have := O5a.out; have := O6.out; have := O8.out; have := O9.out; omega))
    have B_9 := hid (B_8.out.trans (b9.mono (by have := O0.out; have := O1.out; have := O2.out; have := O3.out; have := O3a.out; have := O4.out; have := O4a.out; have := O5.out; have := O5a.out; have := O6.out; have := O8.out; have := O9.out; omega)))
    have R_w_9 := hid (R_w_8.out.kept kp (by have := O0.out; have := O1.out; have := O2.out; have := O3.out; have := O3a.out; have := O4.out; have := O4a.out; have := O5.out; have := O5a.out; have := O6.out; have := O8.out; have := O9.out; omega))
    have X_w_9 := hid (X_w_8.out.kept kp (by have := O0.out; have := O1.out; have := O2.out; have := O3.out; have := O3a.out; have := O4.out; have := O4a.out; have := O5.out; have := O5a.out; have := O6.out; have := O8.out; have := O9.out; omega))
    have X_x_9 := hid (X_x_8.out.kept kp (by have := O0.out; have := O1.out; have := O2.out; have := O3.out; have := O3a.out; have := O4.out; have := O4a.out; have := O5.out; have := O5a.out; have := O6.out; have := O8.out; have := O9.out; omega))
    have R_g_9 := hid (R_g_8.out.kept kp (by have := O0.out; have := O1.out; have := O2.out; have := O3.out; have := O3a.out; have := O4.out; have := O4a.out; have := O5.out; have := O5a.out; have := O6.out; have := O8.out; have := O9.out; omega))
    have X_g_9 := hid (X_g_8.out.kept kp (by have := O0.out; have := O1.out; have := O2.out; have := O3.out; have := O3a.out; have := O4.out; have := O4a.out; have := O5.out; have := O5a.out; have := O6.out; have := O8.out; have := O9.out; omega))
    clear kp b9 Y4_8 X_p_8 B_8 R_w_8 X_w_8 X_x_8 R_g_8 X_g_8 cX_p0_8 cX_p1_8 cX_p2_8 cX_p3_8 cX_p4_8 cX_p5_8 cX_p6_8 cX_p7_8 cX_p8_8 cX_p9_8 cX_p10_8 cX_p11_8 cX_p12_8 cX_w0_8 cX_w1_8 cX_w2_8 cX_w3_8 cX_w4_8 cX_w5_8 cX_w6_8 cX_w7_8 cX_w8_8 cX_w9_8 cX_w10_8 cX_w11_8 cX_w12_8 cX_x0_8 cX_x1_8 cX_x2_8 cX_x3_8 cX_x4_8 cX_x5_8 cX_x6_8 cX_x7_8 cX_x8_8 cX_x9_8 cX_x10_8 cX_x11_8 cX_x12_8 cX_g0_8 cX_g1_8 cX_g2_8 cX_g3_8 cX_g4_8 cX_g5_8 cX_g6_8 cX_g7_8 cX_g8_8 cX_g9_8 cX_g10_8 cX_g11_8 cX_g12_8
    have cX_p0_9 := X_p_9.out.cell (j := 0) rfl
    have cX_p1_9 := X_p_9.out.cell (j := 1) rfl
    have cX_p2_9 := X_p_9.out.cell (j := 2) rfl
    have cX_p3_9 := X_p_9.out.cell (j := 3) rfl
    have cX_p4_9 := X_p_9.out.cell (j := 4) rfl
    have cX_p5_9 := X_p_9.out.cell (j := 5) rfl
    have cX_p6_9 := X_p_9.out.cell (j := 6) rfl
    have cX_p7_9 := X_p_9.out.cell (j := 7) rfl
    have cX_p8_9 := X_p_9.out.cell (j := 8) rfl
    have cX_p9_9 := X_p_9.out.cell (j := 9) rfl
    have cX_p10_9 := X_p_9.out.cell (j := 10) rfl
    have cX_p11_9 := X_p_9.out.cell (j := 11) rfl
    have cX_p12_9 := X_p_9.out.cell (j := 12) rfl
    have cX_w0_9 := X_w_9.out.cell (j := 0) rfl
    have cX_w1_9 := X_w_9.out.cell (j := 1) rfl
    have cX_w2_9 := X_w_9.out.cell (j := 2) rfl
    have cX_w3_9 := X_w_9.out.cell (j := 3) rfl
    have cX_w4_9 := X_w_9.out.cell (j := 4) rfl
    have cX_w5_9 := X_w_9.out.cell (j := 5) rfl
    have cX_w6_9 := X_w_9.out.cell (j := 6) rfl
    have cX_w7_9 := X_w_9.out.cell (j := 7) rfl
    have cX_w8_9 := X_w_9.out.cell (j := 8) rfl
    have cX_w9_9 := X_w_9.out.cell (j := 9) rfl
    have cX_w10_9 := X_w_9.out.cell (j := 10) rfl
    have cX_w11_9 := X_w_9.out.cell (j := 11) rfl
    have cX_w12_9 := X_w_9.out.cell (j := 12) rfl
    have cX_x0_9 := X_x_9.out.cell (j := 0) rfl
    have cX_x1_9 := X_x_9.out.cell (j := 1) rfl
    have cX_x2_9 := X_x_9.out.cell (j := 2) rfl
    have cX_x3_9 := X_x_9.out.cell (j := 3) rfl
    have cX_x4_9 := X_x_9.out.cell (j := 4) rfl
    have cX_x5_9 := X_x_9.out.cell (j := 5) rfl
    have cX_x6_9 := X_x_9.out.cell (j := 6) rfl
    have cX_x7_9 := X_x_9.out.cell (j := 7) rfl
    have cX_x8_9 := X_x_9.out.cell (j := 8) rfl
    have cX_x9_9 := X_x_9.out.cell (j := 9) rfl
    have cX_x10_9 := X_x_9.out.cell (j := 10) rfl
    have cX_x11_9 := X_x_9.out.cell (j := 11) rfl
    have cX_x12_9 := X_x_9.out.cell (j := 12) rfl
    have cX_g0_9 := X_g_9.out.cell (j := 0) rfl
    have cX_g1_9 := X_g_9.out.cell (j := 1) rfl
    have cX_g2_9 := X_g_9.out.cell (j := 2) rfl
    have cX_g3_9 := X_g_9.out.cell (j := 3) rfl
    have cX_g4_9 := X_g_9.out.cell (j := 4) rfl
    have cX_g5_9 := X_g_9.out.cell (j := 5) rfl
    have cX_g6_9 := X_g_9.out.cell (j := 6) rfl
    have cX_g7_9 := X_g_9.out.cell (j := 7) rfl
    have cX_g8_9 := X_g_9.out.cell (j := 8) rfl
    have cX_g9_9 := X_g_9.out.cell (j := 9) rfl
    have cX_g10_9 := X_g_9.out.cell (j := 10) rfl
    have cX_g11_9 := X_g_9.out.cell (j := 11) rfl
    have cX_g12_9 := X_g_9.out.cell (j := 12) rfl
    clear hm9
    go_wp2_with fail
    refine Calls.mono (eqStream_same D v5 v3 c5 c3 (by omega) _ R_g_9.out.lates R_w_9.out.lates) ?_
    rintro e w10 ⟨rfl, b10⟩
    have O10 := hid b10.size
    have X_p_10 := hid (X_p_9.out.on b10 X_p_9.out.lt)
    have B_10 := hid (below_via B_9.out b10)
    have R_w_10 := hid (R_w_9.out.on b10)
    have X_w_10 := hid (X_w_9.out.on b10 X_w_9.out.lt)
    have X_x_10 := hid (X_x_9.out.on b10 X_x_9.out.lt)
    have R_g_10 := hid (R_g_9.out.on b10)
    have X_g_10 := hid (X_g_9.out.on b10 X_g_9.out.lt)
    clear b10 X_p_9 B_9 R_w_9 X_w_9 X_x_9 R_g_9 X_g_9 cX_p0_9 cX_p1_9 cX_p2_9 cX_p3_9 cX_p4_9 cX_p5_9 cX_p6_9 cX_p7_9 cX_p8_9 cX_p9_9 cX_p10_9 cX_p11_9 cX_p12_9 cX_w0_9 cX_w1_9 cX_w2_9 cX_w3_9 cX_w4_9 cX_w5_9 cX_w6_9 cX_w7_9 cX_w8_9 cX_w9_9 cX_w10_9 cX_w11_9 cX_w12_9 cX_x0_9 cX_x1_9 cX_x2_9 cX_x3_9 cX_x4_9 cX_x5_9 cX_x6_9 cX_x7_9 cX_x8_9 cX_x9_9 cX_x10_9 cX_x11_9 cX_x12_9 cX_g0_9 cX_g1_9 cX_g2_9 cX_g3_9 cX_g4_9 cX_g5_9 cX_g6_9 cX_g7_9 cX_g8_9 cX_g9_9 cX_g10_9 cX_g11_9 cX_g12_9
    have cX_p0_10 := X_p_10.out.cell (j := 0) rfl
    have cX_p1_10 := X_p_10.out.cell (j := 1) rfl
    have cX_p2_10 := X_p_10.out.cell (j := 2) rfl
    have cX_p3_10 := X_p_10.out.cell (j := 3) rfl
    have cX_p4_10 := X_p_10.out.cell (j := 4) rfl
    have cX_p5_10 := X_p_10.out.cell (j := 5) rfl
    have cX_p6_10 := X_p_10.out.cell (j := 6) rfl
    have cX_p7_10 := X_p_10.out.cell (j := 7) rfl
    have cX_p8_10 := X_p_10.out.cell (j := 8) rfl
    have cX_p9_10 := X_p_10.out.cell (j := 9) rfl
    have cX_p10_10 := X_p_10.out.cell (j := 10) rfl
    have cX_p11_10 := X_p_10.out.cell (j := 11) rfl
    have cX_p12_10 := X_p_10.out.cell (j := 12) rfl
    have cX_w0_10 := X_w_10.out.cell (j := 0) rfl
    have cX_w1_10 := X_w_10.out.cell (j := 1) rfl
    have cX_w2_10 := X_w_10.out.cell (j := 2) rfl
    have cX_w3_10 := X_w_10.out.cell (j := 3) rfl
    have cX_w4_10 := X_w_10.out.cell (j := 4) rfl
    have cX_w5_10 := X_w_10.out.cell (j := 5) rfl
    have cX_w6_10 := X_w_10.out.cell (j := 6) rfl
    have cX_w7_10 := X_w_10.out.cell (j := 7) rfl
    have cX_w8_10 := X_w_10.out.cell (j := 8) rfl
    have cX_w9_10 := X_w_10.out.cell (j := 9) rfl
    have cX_w10_10 := X_w_10.out.cell (j := 10) rfl
    have cX_w11_10 := X_w_10.out.cell (j := 11) rfl
    have cX_w12_10 := X_w_10.out.cell (j := 12) rfl
    have cX_x0_10 := X_x_10.out.cell (j := 0) rfl
    have cX_x1_10 := X_x_10.out.cell (j := 1) rfl
    have cX_x2_10 := X_x_10.out.cell (j := 2) rfl
    have cX_x3_10 := X_x_10.out.cell (j := 3) rfl
    have cX_x4_10 := X_x_10.out.cell (j := 4) rfl
    have cX_x5_10 := X_x_10.out.cell (j := 5) rfl
    have cX_x6_10 := X_x_10.out.cell (j := 6) rfl
    have cX_x7_10 := X_x_10.out.cell (j := 7) rfl
    have cX_x8_10 := X_x_10.out.cell (j := 8) rfl
    have cX_x9_10 := X_x_10.out.cell (j := 9) rfl
    have cX_x10_10 := X_x_10.out.cell (j := 10) rfl
    have cX_x11_10 := X_x_10.out.cell (j := 11) rfl
    have cX_x12_10 := X_x_10.out.cell (j := 12) rfl
    have cX_g0_10 := X_g_10.out.cell (j := 0) rfl
    have cX_g1_10 := X_g_10.out.cell (j := 1) rfl
    have cX_g2_10 := X_g_10.out.cell (j := 2) rfl
    have cX_g3_10 := X_g_10.out.cell (j := 3) rfl
    have cX_g4_10 := X_g_10.out.cell (j := 4) rfl
    have cX_g5_10 := X_g_10.out.cell (j := 5) rfl
    have cX_g6_10 := X_g_10.out.cell (j := 6) rfl
    have cX_g7_10 := X_g_10.out.cell (j := 7) rfl
    have cX_g8_10 := X_g_10.out.cell (j := 8) rfl
    have cX_g9_10 := X_g_10.out.cell (j := 9) rfl
    have cX_g10_10 := X_g_10.out.cell (j := 10) rfl
    have cX_g11_10 := X_g_10.out.cell (j := 11) rfl
    have cX_g12_10 := X_g_10.out.cell (j := 12) rfl
    go_wp2_with fail
    refine (markStream_o D 1 v5 c5 D.late ((w4.alloc (.cells #[.int .i64 d.st, .int .i64 d.iss, .int .i64 d.una, .int .i64 d.rcv, .string d.wait, .int .i64 d.sent, .int .i64 d.fin, .bool d.pf, .string d.inn, .slice v4 d.late.length c4, .bool d.owe, .int .i64 d.due, .int .i64 d.times] 24)).heap.size) (w5.heap.size) (by omega) (by omega) _ (by have := O0.out; have := O1.out; have := O2.out; have := O3.out; have := O3a.out; have := O4.out; have := O4a.out; have := O5.out; have := O5a.out; have := O6.out; have := O8.out; have := O9.out; have := O10.out; omega) R_g_10.out).mono ?_
    rintro e w11 ⟨rfl, hm11, kp, b11⟩
    have O11 := hid b11.size
    have X_p_11 := hid (X_p_10.out.kept kp (by have := O0.out; have := O1.out; have := O2.out; have := O3.out; have := O3a.out; have := O4.out; have := O4a.out; have := O5.out; have := O5a.out; have := O6.out; have := O8.out; have := O9.out; have := O10.out; have := O11.out; omega))
    have B_11 := hid (B_10.out.trans (b11.mono (by have := O0.out; have := O1.out; have := O2.out; have := O3.out; have := O3a.out; have := O4.out; have := O4a.out; have := O5.out; have := O5a.out; have := O6.out; have := O8.out; have := O9.out; have := O10.out; have := O11.out; omega)))
    have R_w_11 := hid (R_w_10.out.kept kp (by have := O0.out; have := O1.out; have := O2.out; have := O3.out; have := O3a.out; have := O4.out; have := O4a.out; have := O5.out; have := O5a.out; have := O6.out; have := O8.out; have := O9.out; have := O10.out; have := O11.out; omega))
    have X_w_11 := hid (X_w_10.out.kept kp (by have := O0.out; have := O1.out; have := O2.out; have := O3.out; have := O3a.out; have := O4.out; have := O4a.out; have := O5.out; have := O5a.out; have := O6.out; have := O8.out; have := O9.out; have := O10.out; have := O11.out; omega))
    have X_x_11 := hid (X_x_10.out.kept kp (by have := O0.out; have := O1.out; have := O2.out; have := O3.out; have := O3a.out; have := O4.out; have := O4a.out; have := O5.out; have := O5a.out; have := O6.out; have := O8.out; have := O9.out; have := O10.out; have := O11.out; omega))
    have X_g_11 := hid (X_g_10.out.kept kp (by have := O0.out; have := O1.out; have := O2.out; have := O3.out; have := O3a.out; have := O4.out; have := O4a.out; have := O5.out; have := O5a.out; have := O6.out; have := O8.out; have := O9.out; have := O10.out; have := O11.out; omega))
    clear kp b11 R_g_10 X_p_10 B_10 R_w_10 X_w_10 X_x_10 X_g_10 cX_p0_10 cX_p1_10 cX_p2_10 cX_p3_10 cX_p4_10 cX_p5_10 cX_p6_10 cX_p7_10 cX_p8_10 cX_p9_10 cX_p10_10 cX_p11_10 cX_p12_10 cX_w0_10 cX_w1_10 cX_w2_10 cX_w3_10 cX_w4_10 cX_w5_10 cX_w6_10 cX_w7_10 cX_w8_10 cX_w9_10 cX_w10_10 cX_w11_10 cX_w12_10 cX_x0_10 cX_x1_10 cX_x2_10 cX_x3_10 cX_x4_10 cX_x5_10 cX_x6_10 cX_x7_10 cX_x8_10 cX_x9_10 cX_x10_10 cX_x11_10 cX_x12_10 cX_g0_10 cX_g1_10 cX_g2_10 cX_g3_10 cX_g4_10 cX_g5_10 cX_g6_10 cX_g7_10 cX_g8_10 cX_g9_10 cX_g10_10 cX_g11_10 cX_g12_10
    have cX_p0_11 := X_p_11.out.cell (j := 0) rfl
    have cX_p1_11 := X_p_11.out.cell (j := 1) rfl
    have cX_p2_11 := X_p_11.out.cell (j := 2) rfl
    have cX_p3_11 := X_p_11.out.cell (j := 3) rfl
    have cX_p4_11 := X_p_11.out.cell (j := 4) rfl
    have cX_p5_11 := X_p_11.out.cell (j := 5) rfl
    have cX_p6_11 := X_p_11.out.cell (j := 6) rfl
    have cX_p7_11 := X_p_11.out.cell (j := 7) rfl
    have cX_p8_11 := X_p_11.out.cell (j := 8) rfl
    have cX_p9_11 := X_p_11.out.cell (j := 9) rfl
    have cX_p10_11 := X_p_11.out.cell (j := 10) rfl
    have cX_p11_11 := X_p_11.out.cell (j := 11) rfl
    have cX_p12_11 := X_p_11.out.cell (j := 12) rfl
    have cX_w0_11 := X_w_11.out.cell (j := 0) rfl
    have cX_w1_11 := X_w_11.out.cell (j := 1) rfl
    have cX_w2_11 := X_w_11.out.cell (j := 2) rfl
    have cX_w3_11 := X_w_11.out.cell (j := 3) rfl
    have cX_w4_11 := X_w_11.out.cell (j := 4) rfl
    have cX_w5_11 := X_w_11.out.cell (j := 5) rfl
    have cX_w6_11 := X_w_11.out.cell (j := 6) rfl
    have cX_w7_11 := X_w_11.out.cell (j := 7) rfl
    have cX_w8_11 := X_w_11.out.cell (j := 8) rfl
    have cX_w9_11 := X_w_11.out.cell (j := 9) rfl
    have cX_w10_11 := X_w_11.out.cell (j := 10) rfl
    have cX_w11_11 := X_w_11.out.cell (j := 11) rfl
    have cX_w12_11 := X_w_11.out.cell (j := 12) rfl
    have cX_x0_11 := X_x_11.out.cell (j := 0) rfl
    have cX_x1_11 := X_x_11.out.cell (j := 1) rfl
    have cX_x2_11 := X_x_11.out.cell (j := 2) rfl
    have cX_x3_11 := X_x_11.out.cell (j := 3) rfl
    have cX_x4_11 := X_x_11.out.cell (j := 4) rfl
    have cX_x5_11 := X_x_11.out.cell (j := 5) rfl
    have cX_x6_11 := X_x_11.out.cell (j := 6) rfl
    have cX_x7_11 := X_x_11.out.cell (j := 7) rfl
    have cX_x8_11 := X_x_11.out.cell (j := 8) rfl
    have cX_x9_11 := X_x_11.out.cell (j := 9) rfl
    have cX_x10_11 := X_x_11.out.cell (j := 10) rfl
    have cX_x11_11 := X_x_11.out.cell (j := 11) rfl
    have cX_x12_11 := X_x_11.out.cell (j := 12) rfl
    have cX_g0_11 := X_g_11.out.cell (j := 0) rfl
    have cX_g1_11 := X_g_11.out.cell (j := 1) rfl
    have cX_g2_11 := X_g_11.out.cell (j := 2) rfl
    have cX_g3_11 := X_g_11.out.cell (j := 3) rfl
    have cX_g4_11 := X_g_11.out.cell (j := 4) rfl
    have cX_g5_11 := X_g_11.out.cell (j := 5) rfl
    have cX_g6_11 := X_g_11.out.cell (j := 6) rfl
    have cX_g7_11 := X_g_11.out.cell (j := 7) rfl
    have cX_g8_11 := X_g_11.out.cell (j := 8) rfl
    have cX_g9_11 := X_g_11.out.cell (j := 9) rfl
    have cX_g10_11 := X_g_11.out.cell (j := 10) rfl
    have cX_g11_11 := X_g_11.out.cell (j := 11) rfl
    have cX_g12_11 := X_g_11.out.cell (j := 12) rfl
    have M_11 := hid hm11
    clear hm11
    go_wp2_with fail
    refine Calls.mono (heldStream_any D v5 D.late.length c5 1 (by omega) hA2 _ M_11.out) ?_
    rintro e w12 ⟨rfl, b12⟩
    have O12 := hid b12.size
    have X_p_12 := hid (X_p_11.out.on b12 X_p_11.out.lt)
    have B_12 := hid (below_via B_11.out b12)
    have R_w_12 := hid (R_w_11.out.on b12)
    have X_w_12 := hid (X_w_11.out.on b12 X_w_11.out.lt)
    have X_x_12 := hid (X_x_11.out.on b12 X_x_11.out.lt)
    have X_g_12 := hid (X_g_11.out.on b12 X_g_11.out.lt)
    have M_12 := hid (M_11.out.on b12)
    clear b12 X_p_11 B_11 R_w_11 X_w_11 X_x_11 X_g_11 M_11 cX_p0_11 cX_p1_11 cX_p2_11 cX_p3_11 cX_p4_11 cX_p5_11 cX_p6_11 cX_p7_11 cX_p8_11 cX_p9_11 cX_p10_11 cX_p11_11 cX_p12_11 cX_w0_11 cX_w1_11 cX_w2_11 cX_w3_11 cX_w4_11 cX_w5_11 cX_w6_11 cX_w7_11 cX_w8_11 cX_w9_11 cX_w10_11 cX_w11_11 cX_w12_11 cX_x0_11 cX_x1_11 cX_x2_11 cX_x3_11 cX_x4_11 cX_x5_11 cX_x6_11 cX_x7_11 cX_x8_11 cX_x9_11 cX_x10_11 cX_x11_11 cX_x12_11 cX_g0_11 cX_g1_11 cX_g2_11 cX_g3_11 cX_g4_11 cX_g5_11 cX_g6_11 cX_g7_11 cX_g8_11 cX_g9_11 cX_g10_11 cX_g11_11 cX_g12_11
    have cX_p0_12 := X_p_12.out.cell (j := 0) rfl
    have cX_p1_12 := X_p_12.out.cell (j := 1) rfl
    have cX_p2_12 := X_p_12.out.cell (j := 2) rfl
    have cX_p3_12 := X_p_12.out.cell (j := 3) rfl
    have cX_p4_12 := X_p_12.out.cell (j := 4) rfl
    have cX_p5_12 := X_p_12.out.cell (j := 5) rfl
    have cX_p6_12 := X_p_12.out.cell (j := 6) rfl
    have cX_p7_12 := X_p_12.out.cell (j := 7) rfl
    have cX_p8_12 := X_p_12.out.cell (j := 8) rfl
    have cX_p9_12 := X_p_12.out.cell (j := 9) rfl
    have cX_p10_12 := X_p_12.out.cell (j := 10) rfl
    have cX_p11_12 := X_p_12.out.cell (j := 11) rfl
    have cX_p12_12 := X_p_12.out.cell (j := 12) rfl
    have cX_w0_12 := X_w_12.out.cell (j := 0) rfl
    have cX_w1_12 := X_w_12.out.cell (j := 1) rfl
    have cX_w2_12 := X_w_12.out.cell (j := 2) rfl
    have cX_w3_12 := X_w_12.out.cell (j := 3) rfl
    have cX_w4_12 := X_w_12.out.cell (j := 4) rfl
    have cX_w5_12 := X_w_12.out.cell (j := 5) rfl
    have cX_w6_12 := X_w_12.out.cell (j := 6) rfl
    have cX_w7_12 := X_w_12.out.cell (j := 7) rfl
    have cX_w8_12 := X_w_12.out.cell (j := 8) rfl
    have cX_w9_12 := X_w_12.out.cell (j := 9) rfl
    have cX_w10_12 := X_w_12.out.cell (j := 10) rfl
    have cX_w11_12 := X_w_12.out.cell (j := 11) rfl
    have cX_w12_12 := X_w_12.out.cell (j := 12) rfl
    have cX_x0_12 := X_x_12.out.cell (j := 0) rfl
    have cX_x1_12 := X_x_12.out.cell (j := 1) rfl
    have cX_x2_12 := X_x_12.out.cell (j := 2) rfl
    have cX_x3_12 := X_x_12.out.cell (j := 3) rfl
    have cX_x4_12 := X_x_12.out.cell (j := 4) rfl
    have cX_x5_12 := X_x_12.out.cell (j := 5) rfl
    have cX_x6_12 := X_x_12.out.cell (j := 6) rfl
    have cX_x7_12 := X_x_12.out.cell (j := 7) rfl
    have cX_x8_12 := X_x_12.out.cell (j := 8) rfl
    have cX_x9_12 := X_x_12.out.cell (j := 9) rfl
    have cX_x10_12 := X_x_12.out.cell (j := 10) rfl
    have cX_x11_12 := X_x_12.out.cell (j := 11) rfl
    have cX_x12_12 := X_x_12.out.cell (j := 12) rfl
    have cX_g0_12 := X_g_12.out.cell (j := 0) rfl
    have cX_g1_12 := X_g_12.out.cell (j := 1) rfl
    have cX_g2_12 := X_g_12.out.cell (j := 2) rfl
    have cX_g3_12 := X_g_12.out.cell (j := 3) rfl
    have cX_g4_12 := X_g_12.out.cell (j := 4) rfl
    have cX_g5_12 := X_g_12.out.cell (j := 5) rfl
    have cX_g6_12 := X_g_12.out.cell (j := 6) rfl
    have cX_g7_12 := X_g_12.out.cell (j := 7) rfl
    have cX_g8_12 := X_g_12.out.cell (j := 8) rfl
    have cX_g9_12 := X_g_12.out.cell (j := 9) rfl
    have cX_g10_12 := X_g_12.out.cell (j := 10) rfl
    have cX_g11_12 := X_g_12.out.cell (j := 11) rfl
    have cX_g12_12 := X_g_12.out.cell (j := 12) rfl
    go_wp2_with fail
    refine Calls.mono (toStream_o d ao cap hl2 _ (HA.out.on B_12.out)) ?_
    rintro e w13 ⟨v13, c13, rfl, hc13, h13, b13⟩
    have O13 := hid b13.size
    have Y13 := hid h13
    clear h13 hc13
    have X_p_13 := hid (X_p_12.out.on b13 X_p_12.out.lt)
    have B_13 := hid (below_via B_12.out b13)
    have R_w_13 := hid (R_w_12.out.on b13)
    have X_w_13 := hid (X_w_12.out.on b13 X_w_12.out.lt)
    have X_x_13 := hid (X_x_12.out.on b13 X_x_12.out.lt)
    have X_g_13 := hid (X_g_12.out.on b13 X_g_12.out.lt)
    have M_13 := hid (M_12.out.on b13)
    clear b13 X_p_12 B_12 R_w_12 X_w_12 X_x_12 X_g_12 M_12 cX_p0_12 cX_p1_12 cX_p2_12 cX_p3_12 cX_p4_12 cX_p5_12 cX_p6_12 cX_p7_12 cX_p8_12 cX_p9_12 cX_p10_12 cX_p11_12 cX_p12_12 cX_w0_12 cX_w1_12 cX_w2_12 cX_w3_12 cX_w4_12 cX_w5_12 cX_w6_12 cX_w7_12 cX_w8_12 cX_w9_12 cX_w10_12 cX_w11_12 cX_w12_12 cX_x0_12 cX_x1_12 cX_x2_12 cX_x3_12 cX_x4_12 cX_x5_12 cX_x6_12 cX_x7_12 cX_x8_12 cX_x9_12 cX_x10_12 cX_x11_12 cX_x12_12 cX_g0_12 cX_g1_12 cX_g2_12 cX_g3_12 cX_g4_12 cX_g5_12 cX_g6_12 cX_g7_12 cX_g8_12 cX_g9_12 cX_g10_12 cX_g11_12 cX_g12_12
    have cX_p0_13 := X_p_13.out.cell (j := 0) rfl
    have cX_p1_13 := X_p_13.out.cell (j := 1) rfl
    have cX_p2_13 := X_p_13.out.cell (j := 2) rfl
    have cX_p3_13 := X_p_13.out.cell (j := 3) rfl
    have cX_p4_13 := X_p_13.out.cell (j := 4) rfl
    have cX_p5_13 := X_p_13.out.cell (j := 5) rfl
    have cX_p6_13 := X_p_13.out.cell (j := 6) rfl
    have cX_p7_13 := X_p_13.out.cell (j := 7) rfl
    have cX_p8_13 := X_p_13.out.cell (j := 8) rfl
    have cX_p9_13 := X_p_13.out.cell (j := 9) rfl
    have cX_p10_13 := X_p_13.out.cell (j := 10) rfl
    have cX_p11_13 := X_p_13.out.cell (j := 11) rfl
    have cX_p12_13 := X_p_13.out.cell (j := 12) rfl
    have cX_w0_13 := X_w_13.out.cell (j := 0) rfl
    have cX_w1_13 := X_w_13.out.cell (j := 1) rfl
    have cX_w2_13 := X_w_13.out.cell (j := 2) rfl
    have cX_w3_13 := X_w_13.out.cell (j := 3) rfl
    have cX_w4_13 := X_w_13.out.cell (j := 4) rfl
    have cX_w5_13 := X_w_13.out.cell (j := 5) rfl
    have cX_w6_13 := X_w_13.out.cell (j := 6) rfl
    have cX_w7_13 := X_w_13.out.cell (j := 7) rfl
    have cX_w8_13 := X_w_13.out.cell (j := 8) rfl
    have cX_w9_13 := X_w_13.out.cell (j := 9) rfl
    have cX_w10_13 := X_w_13.out.cell (j := 10) rfl
    have cX_w11_13 := X_w_13.out.cell (j := 11) rfl
    have cX_w12_13 := X_w_13.out.cell (j := 12) rfl
    have cX_x0_13 := X_x_13.out.cell (j := 0) rfl
    have cX_x1_13 := X_x_13.out.cell (j := 1) rfl
    have cX_x2_13 := X_x_13.out.cell (j := 2) rfl
    have cX_x3_13 := X_x_13.out.cell (j := 3) rfl
    have cX_x4_13 := X_x_13.out.cell (j := 4) rfl
    have cX_x5_13 := X_x_13.out.cell (j := 5) rfl
    have cX_x6_13 := X_x_13.out.cell (j := 6) rfl
    have cX_x7_13 := X_x_13.out.cell (j := 7) rfl
    have cX_x8_13 := X_x_13.out.cell (j := 8) rfl
    have cX_x9_13 := X_x_13.out.cell (j := 9) rfl
    have cX_x10_13 := X_x_13.out.cell (j := 10) rfl
    have cX_x11_13 := X_x_13.out.cell (j := 11) rfl
    have cX_x12_13 := X_x_13.out.cell (j := 12) rfl
    have cX_g0_13 := X_g_13.out.cell (j := 0) rfl
    have cX_g1_13 := X_g_13.out.cell (j := 1) rfl
    have cX_g2_13 := X_g_13.out.cell (j := 2) rfl
    have cX_g3_13 := X_g_13.out.cell (j := 3) rfl
    have cX_g4_13 := X_g_13.out.cell (j := 4) rfl
    have cX_g5_13 := X_g_13.out.cell (j := 5) rfl
    have cX_g6_13 := X_g_13.out.cell (j := 6) rfl
    have cX_g7_13 := X_g_13.out.cell (j := 7) rfl
    have cX_g8_13 := X_g_13.out.cell (j := 8) rfl
    have cX_g9_13 := X_g_13.out.cell (j := 9) rfl
    have cX_g10_13 := X_g_13.out.cell (j := 10) rfl
    have cX_g11_13 := X_g_13.out.cell (j := 11) rfl
    have cX_g12_13 := X_g_13.out.cell (j := 12) rfl
    have CQ := hid (implWrite_any d _ c13 HSM.out x hxl _ Y13.out.lates)
    unfold StrDid2 at CQ
    rw [hF, hOK] at CQ
    go_wp2_with fail
    refine Calls.mono (CQ.out) ?_
    rintro e w14 ⟨v14, c14, rfl, hvc14, h14, b14⟩
    have O14 := hid b14.size
    have R_h := hid h14
    clear h14 hvc14 CQ
    have X_p_14 := hid (X_p_13.out.on b14 X_p_13.out.lt)
    have B_14 := hid (below_via B_13.out b14)
    have R_w_14 := hid (R_w_13.out.on b14)
    have X_w_14 := hid (X_w_13.out.on b14 X_w_13.out.lt)
    have X_x_14 := hid (X_x_13.out.on b14 X_x_13.out.lt)
    have X_g_14 := hid (X_g_13.out.on b14 X_g_13.out.lt)
    have M_14 := hid (M_13.out.on b14)
    have Y13_14 := hid (Y13.out.on b14)
    clear b14 X_p_13 B_13 R_w_13 X_w_13 X_x_13 X_g_13 M_13 Y13 cX_p0_13 cX_p1_13 cX_p2_13 cX_p3_13 cX_p4_13 cX_p5_13 cX_p6_13 cX_p7_13 cX_p8_13 cX_p9_13 cX_p10_13 cX_p11_13 cX_p12_13 cX_w0_13 cX_w1_13 cX_w2_13 cX_w3_13 cX_w4_13 cX_w5_13 cX_w6_13 cX_w7_13 cX_w8_13 cX_w9_13 cX_w10_13 cX_w11_13 cX_w12_13 cX_x0_13 cX_x1_13 cX_x2_13 cX_x3_13 cX_x4_13 cX_x5_13 cX_x6_13 cX_x7_13 cX_x8_13 cX_x9_13 cX_x10_13 cX_x11_13 cX_x12_13 cX_g0_13 cX_g1_13 cX_g2_13 cX_g3_13 cX_g4_13 cX_g5_13 cX_g6_13 cX_g7_13 cX_g8_13 cX_g9_13 cX_g10_13 cX_g11_13 cX_g12_13
    have cX_p0_14 := X_p_14.out.cell (j := 0) rfl
    have cX_p1_14 := X_p_14.out.cell (j := 1) rfl
    have cX_p2_14 := X_p_14.out.cell (j := 2) rfl
    have cX_p3_14 := X_p_14.out.cell (j := 3) rfl
    have cX_p4_14 := X_p_14.out.cell (j := 4) rfl
    have cX_p5_14 := X_p_14.out.cell (j := 5) rfl
    have cX_p6_14 := X_p_14.out.cell (j := 6) rfl
    have cX_p7_14 := X_p_14.out.cell (j := 7) rfl
    have cX_p8_14 := X_p_14.out.cell (j := 8) rfl
    have cX_p9_14 := X_p_14.out.cell (j := 9) rfl
    have cX_p10_14 := X_p_14.out.cell (j := 10) rfl
    have cX_p11_14 := X_p_14.out.cell (j := 11) rfl
    have cX_p12_14 := X_p_14.out.cell (j := 12) rfl
    have cX_w0_14 := X_w_14.out.cell (j := 0) rfl
    have cX_w1_14 := X_w_14.out.cell (j := 1) rfl
    have cX_w2_14 := X_w_14.out.cell (j := 2) rfl
    have cX_w3_14 := X_w_14.out.cell (j := 3) rfl
    have cX_w4_14 := X_w_14.out.cell (j := 4) rfl
    have cX_w5_14 := X_w_14.out.cell (j := 5) rfl
    have cX_w6_14 := X_w_14.out.cell (j := 6) rfl
    have cX_w7_14 := X_w_14.out.cell (j := 7) rfl
    have cX_w8_14 := X_w_14.out.cell (j := 8) rfl
    have cX_w9_14 := X_w_14.out.cell (j := 9) rfl
    have cX_w10_14 := X_w_14.out.cell (j := 10) rfl
    have cX_w11_14 := X_w_14.out.cell (j := 11) rfl
    have cX_w12_14 := X_w_14.out.cell (j := 12) rfl
    have cX_x0_14 := X_x_14.out.cell (j := 0) rfl
    have cX_x1_14 := X_x_14.out.cell (j := 1) rfl
    have cX_x2_14 := X_x_14.out.cell (j := 2) rfl
    have cX_x3_14 := X_x_14.out.cell (j := 3) rfl
    have cX_x4_14 := X_x_14.out.cell (j := 4) rfl
    have cX_x5_14 := X_x_14.out.cell (j := 5) rfl
    have cX_x6_14 := X_x_14.out.cell (j := 6) rfl
    have cX_x7_14 := X_x_14.out.cell (j := 7) rfl
    have cX_x8_14 := X_x_14.out.cell (j := 8) rfl
    have cX_x9_14 := X_x_14.out.cell (j := 9) rfl
    have cX_x10_14 := X_x_14.out.cell (j := 10) rfl
    have cX_x11_14 := X_x_14.out.cell (j := 11) rfl
    have cX_x12_14 := X_x_14.out.cell (j := 12) rfl
    have cX_g0_14 := X_g_14.out.cell (j := 0) rfl
    have cX_g1_14 := X_g_14.out.cell (j := 1) rfl
    have cX_g2_14 := X_g_14.out.cell (j := 2) rfl
    have cX_g3_14 := X_g_14.out.cell (j := 3) rfl
    have cX_g4_14 := X_g_14.out.cell (j := 4) rfl
    have cX_g5_14 := X_g_14.out.cell (j := 5) rfl
    have cX_g6_14 := X_g_14.out.cell (j := 6) rfl
    have cX_g7_14 := X_g_14.out.cell (j := 7) rfl
    have cX_g8_14 := X_g_14.out.cell (j := 8) rfl
    have cX_g9_14 := X_g_14.out.cell (j := 9) rfl
    have cX_g10_14 := X_g_14.out.cell (j := 10) rfl
    have cX_g11_14 := X_g_14.out.cell (j := 11) rfl
    have cX_g12_14 := X_g_14.out.cell (j := 12) rfl
    clear Y13_14
    have ba := below_more (Below.refl w14.heap.size w14) (.cells #[.int .i64 D.st, .int .i64 D.iss, .int .i64 D.una, .int .i64 D.rcv, .string D.wait, .int .i64 D.sent, .int .i64 D.fin, .bool D.pf, .string D.inn, .slice v14 D.late.length c14, .bool D.owe, .int .i64 D.due, .int .i64 D.times] 24)
    have hx : BlockIs (w14.alloc (.cells #[.int .i64 D.st, .int .i64 D.iss, .int .i64 D.una, .int .i64 D.rcv, .string D.wait, .int .i64 D.sent, .int .i64 D.fin, .bool D.pf, .string D.inn, .slice v14 D.late.length c14, .bool D.owe, .int .i64 D.due, .int .i64 D.times] 24)) w14.heap.size 24 [.int .i64 D.st, .int .i64 D.iss, .int .i64 D.una, .int .i64 D.rcv, .string D.wait, .int .i64 D.sent, .int .i64 D.fin, .bool D.pf, .string D.inn, .slice v14 D.late.length c14, .bool D.owe, .int .i64 D.due, .int .i64 D.times] := heap_alloc_new w14 _
    have X_p_14a := hid (X_p_14.out.on ba X_p_14.out.lt)
    have B_14a := hid (below_via B_14.out ba)
    have R_w_14a := hid (R_w_14.out.on ba)
    have X_w_14a := hid (X_w_14.out.on ba X_w_14.out.lt)
    have X_x_14a := hid (X_x_14.out.on ba X_x_14.out.lt)
    have X_g_14a := hid (X_g_14.out.on ba X_g_14.out.lt)
    have M_14a := hid (M_14.out.on ba)
    have R_h_14a := hid (R_h.out.on ba)
    have X_h_14a := hid hx
    have O14a := hid hx.lt
    clear ba hx X_p_14 B_14 R_w_14 X_w_14 X_x_14 X_g_14 M_14 R_h
    have cX_p0_14a := X_p_14a.out.cell (j := 0) rfl
    have cX_p1_14a := X_p_14a.out.cell (j := 1) rfl
    have cX_p2_14a := X_p_14a.out.cell (j := 2) rfl
    have cX_p3_14a := X_p_14a.out.cell (j := 3) rfl
    have cX_p4_14a := X_p_14a.out.cell (j := 4) rfl
    have cX_p5_14a := X_p_14a.out.cell (j := 5) rfl
    have cX_p6_14a := X_p_14a.out.cell (j := 6) rfl
    have cX_p7_14a := X_p_14a.out.cell (j := 7) rfl
    have cX_p8_14a := X_p_14a.out.cell (j := 8) rfl
    have cX_p9_14a := X_p_14a.out.cell (j := 9) rfl
    have cX_p10_14a := X_p_14a.out.cell (j := 10) rfl
    have cX_p11_14a := X_p_14a.out.cell (j := 11) rfl
    have cX_p12_14a := X_p_14a.out.cell (j := 12) rfl
    have cX_w0_14a := X_w_14a.out.cell (j := 0) rfl
    have cX_w1_14a := X_w_14a.out.cell (j := 1) rfl
    have cX_w2_14a := X_w_14a.out.cell (j := 2) rfl
    have cX_w3_14a := X_w_14a.out.cell (j := 3) rfl
    have cX_w4_14a := X_w_14a.out.cell (j := 4) rfl
    have cX_w5_14a := X_w_14a.out.cell (j := 5) rfl
    have cX_w6_14a := X_w_14a.out.cell (j := 6) rfl
    have cX_w7_14a := X_w_14a.out.cell (j := 7) rfl
    have cX_w8_14a := X_w_14a.out.cell (j := 8) rfl
    have cX_w9_14a := X_w_14a.out.cell (j := 9) rfl
    have cX_w10_14a := X_w_14a.out.cell (j := 10) rfl
    have cX_w11_14a := X_w_14a.out.cell (j := 11) rfl
    have cX_w12_14a := X_w_14a.out.cell (j := 12) rfl
    have cX_x0_14a := X_x_14a.out.cell (j := 0) rfl
    have cX_x1_14a := X_x_14a.out.cell (j := 1) rfl
    have cX_x2_14a := X_x_14a.out.cell (j := 2) rfl
    have cX_x3_14a := X_x_14a.out.cell (j := 3) rfl
    have cX_x4_14a := X_x_14a.out.cell (j := 4) rfl
    have cX_x5_14a := X_x_14a.out.cell (j := 5) rfl
    have cX_x6_14a := X_x_14a.out.cell (j := 6) rfl
    have cX_x7_14a := X_x_14a.out.cell (j := 7) rfl
    have cX_x8_14a := X_x_14a.out.cell (j := 8) rfl
    have cX_x9_14a := X_x_14a.out.cell (j := 9) rfl
    have cX_x10_14a := X_x_14a.out.cell (j := 10) rfl
    have cX_x11_14a := X_x_14a.out.cell (j := 11) rfl
    have cX_x12_14a := X_x_14a.out.cell (j := 12) rfl
    have cX_g0_14a := X_g_14a.out.cell (j := 0) rfl
    have cX_g1_14a := X_g_14a.out.cell (j := 1) rfl
    have cX_g2_14a := X_g_14a.out.cell (j := 2) rfl
    have cX_g3_14a := X_g_14a.out.cell (j := 3) rfl
    have cX_g4_14a := X_g_14a.out.cell (j := 4) rfl
    have cX_g5_14a := X_g_14a.out.cell (j := 5) rfl
    have cX_g6_14a := X_g_14a.out.cell (j := 6) rfl
    have cX_g7_14a := X_g_14a.out.cell (j := 7) rfl
    have cX_g8_14a := X_g_14a.out.cell (j := 8) rfl
    have cX_g9_14a := X_g_14a.out.cell (j := 9) rfl
    have cX_g10_14a := X_g_14a.out.cell (j := 10) rfl
    have cX_g11_14a := X_g_14a.out.cell (j := 11) rfl
    have cX_g12_14a := X_g_14a.out.cell (j := 12) rfl
    have cX_h0_14a := X_h_14a.out.cell (j := 0) rfl
    have cX_h1_14a := X_h_14a.out.cell (j := 1) rfl
    have cX_h2_14a := X_h_14a.out.cell (j := 2) rfl
    have cX_h3_14a := X_h_14a.out.cell (j := 3) rfl
    have cX_h4_14a := X_h_14a.out.cell (j := 4) rfl
    have cX_h5_14a := X_h_14a.out.cell (j := 5) rfl
    have cX_h6_14a := X_h_14a.out.cell (j := 6) rfl
    have cX_h7_14a := X_h_14a.out.cell (j := 7) rfl
    have cX_h8_14a := X_h_14a.out.cell (j := 8) rfl
    have cX_h9_14a := X_h_14a.out.cell (j := 9) rfl
    have cX_h10_14a := X_h_14a.out.cell (j := 10) rfl
    have cX_h11_14a := X_h_14a.out.cell (j := 11) rfl
    have cX_h12_14a := X_h_14a.out.cell (j := 12) rfl
    go_wp2_with fail
    refine Calls.mono (eqStream_same D v14 v3 c14 c3 (by omega) _ R_h_14a.out.lates R_w_14a.out.lates) ?_
    rintro e w15 ⟨rfl, b15⟩
    have O15 := hid b15.size
    have X_p_15 := hid (X_p_14a.out.on b15 X_p_14a.out.lt)
    have B_15 := hid (below_via B_14a.out b15)
    have R_w_15 := hid (R_w_14a.out.on b15)
    have X_w_15 := hid (X_w_14a.out.on b15 X_w_14a.out.lt)
    have X_x_15 := hid (X_x_14a.out.on b15 X_x_14a.out.lt)
    have X_g_15 := hid (X_g_14a.out.on b15 X_g_14a.out.lt)
    have M_15 := hid (M_14a.out.on b15)
    have R_h_15 := hid (R_h_14a.out.on b15)
    have X_h_15 := hid (X_h_14a.out.on b15 X_h_14a.out.lt)
    clear b15 X_p_14a B_14a R_w_14a X_w_14a X_x_14a X_g_14a M_14a R_h_14a X_h_14a cX_p0_14a cX_p1_14a cX_p2_14a cX_p3_14a cX_p4_14a cX_p5_14a cX_p6_14a cX_p7_14a cX_p8_14a cX_p9_14a cX_p10_14a cX_p11_14a cX_p12_14a cX_w0_14a cX_w1_14a cX_w2_14a cX_w3_14a cX_w4_14a cX_w5_14a cX_w6_14a cX_w7_14a cX_w8_14a cX_w9_14a cX_w10_14a cX_w11_14a cX_w12_14a cX_x0_14a cX_x1_14a cX_x2_14a cX_x3_14a cX_x4_14a cX_x5_14a cX_x6_14a cX_x7_14a cX_x8_14a cX_x9_14a cX_x10_14a cX_x11_14a cX_x12_14a cX_g0_14a cX_g1_14a cX_g2_14a cX_g3_14a cX_g4_14a cX_g5_14a cX_g6_14a cX_g7_14a cX_g8_14a cX_g9_14a cX_g10_14a cX_g11_14a cX_g12_14a cX_h0_14a cX_h1_14a cX_h2_14a cX_h3_14a cX_h4_14a cX_h5_14a cX_h6_14a cX_h7_14a cX_h8_14a cX_h9_14a cX_h10_14a cX_h11_14a cX_h12_14a cX_p0_14 cX_p1_14 cX_p2_14 cX_p3_14 cX_p4_14 cX_p5_14 cX_p6_14 cX_p7_14 cX_p8_14 cX_p9_14 cX_p10_14 cX_p11_14 cX_p12_14 cX_w0_14 cX_w1_14 cX_w2_14 cX_w3_14 cX_w4_14 cX_w5_14 cX_w6_14 cX_w7_14 cX_w8_14 cX_w9_14 cX_w10_14 cX_w11_14 cX_w12_14 cX_x0_14 cX_x1_14 cX_x2_14 cX_x3_14 cX_x4_14 cX_x5_14 cX_x6_14 cX_x7_14 cX_x8_14 cX_x9_14 cX_x10_14 cX_x11_14 cX_x12_14 cX_g0_14 cX_g1_14 cX_g2_14 cX_g3_14 cX_g4_14 cX_g5_14 cX_g6_14 cX_g7_14 cX_g8_14 cX_g9_14 cX_g10_14 cX_g11_14 cX_g12_14
    have cX_p0_15 := X_p_15.out.cell (j := 0) rfl
    have cX_p1_15 := X_p_15.out.cell (j := 1) rfl
    have cX_p2_15 := X_p_15.out.cell (j := 2) rfl
    have cX_p3_15 := X_p_15.out.cell (j := 3) rfl
    have cX_p4_15 := X_p_15.out.cell (j := 4) rfl
    have cX_p5_15 := X_p_15.out.cell (j := 5) rfl
    have cX_p6_15 := X_p_15.out.cell (j := 6) rfl
    have cX_p7_15 := X_p_15.out.cell (j := 7) rfl
    have cX_p8_15 := X_p_15.out.cell (j := 8) rfl
    have cX_p9_15 := X_p_15.out.cell (j := 9) rfl
    have cX_p10_15 := X_p_15.out.cell (j := 10) rfl
    have cX_p11_15 := X_p_15.out.cell (j := 11) rfl
    have cX_p12_15 := X_p_15.out.cell (j := 12) rfl
    have cX_w0_15 := X_w_15.out.cell (j := 0) rfl
    have cX_w1_15 := X_w_15.out.cell (j := 1) rfl
    have cX_w2_15 := X_w_15.out.cell (j := 2) rfl
    have cX_w3_15 := X_w_15.out.cell (j := 3) rfl
    have cX_w4_15 := X_w_15.out.cell (j := 4) rfl
    have cX_w5_15 := X_w_15.out.cell (j := 5) rfl
    have cX_w6_15 := X_w_15.out.cell (j := 6) rfl
    have cX_w7_15 := X_w_15.out.cell (j := 7) rfl
    have cX_w8_15 := X_w_15.out.cell (j := 8) rfl
    have cX_w9_15 := X_w_15.out.cell (j := 9) rfl
    have cX_w10_15 := X_w_15.out.cell (j := 10) rfl
    have cX_w11_15 := X_w_15.out.cell (j := 11) rfl
    have cX_w12_15 := X_w_15.out.cell (j := 12) rfl
    have cX_x0_15 := X_x_15.out.cell (j := 0) rfl
    have cX_x1_15 := X_x_15.out.cell (j := 1) rfl
    have cX_x2_15 := X_x_15.out.cell (j := 2) rfl
    have cX_x3_15 := X_x_15.out.cell (j := 3) rfl
    have cX_x4_15 := X_x_15.out.cell (j := 4) rfl
    have cX_x5_15 := X_x_15.out.cell (j := 5) rfl
    have cX_x6_15 := X_x_15.out.cell (j := 6) rfl
    have cX_x7_15 := X_x_15.out.cell (j := 7) rfl
    have cX_x8_15 := X_x_15.out.cell (j := 8) rfl
    have cX_x9_15 := X_x_15.out.cell (j := 9) rfl
    have cX_x10_15 := X_x_15.out.cell (j := 10) rfl
    have cX_x11_15 := X_x_15.out.cell (j := 11) rfl
    have cX_x12_15 := X_x_15.out.cell (j := 12) rfl
    have cX_g0_15 := X_g_15.out.cell (j := 0) rfl
    have cX_g1_15 := X_g_15.out.cell (j := 1) rfl
    have cX_g2_15 := X_g_15.out.cell (j := 2) rfl
    have cX_g3_15 := X_g_15.out.cell (j := 3) rfl
    have cX_g4_15 := X_g_15.out.cell (j := 4) rfl
    have cX_g5_15 := X_g_15.out.cell (j := 5) rfl
    have cX_g6_15 := X_g_15.out.cell (j := 6) rfl
    have cX_g7_15 := X_g_15.out.cell (j := 7) rfl
    have cX_g8_15 := X_g_15.out.cell (j := 8) rfl
    have cX_g9_15 := X_g_15.out.cell (j := 9) rfl
    have cX_g10_15 := X_g_15.out.cell (j := 10) rfl
    have cX_g11_15 := X_g_15.out.cell (j := 11) rfl
    have cX_g12_15 := X_g_15.out.cell (j := 12) rfl
    have cX_h0_15 := X_h_15.out.cell (j := 0) rfl
    have cX_h1_15 := X_h_15.out.cell (j := 1) rfl
    have cX_h2_15 := X_h_15.out.cell (j := 2) rfl
    have cX_h3_15 := X_h_15.out.cell (j := 3) rfl
    have cX_h4_15 := X_h_15.out.cell (j := 4) rfl
    have cX_h5_15 := X_h_15.out.cell (j := 5) rfl
    have cX_h6_15 := X_h_15.out.cell (j := 6) rfl
    have cX_h7_15 := X_h_15.out.cell (j := 7) rfl
    have cX_h8_15 := X_h_15.out.cell (j := 8) rfl
    have cX_h9_15 := X_h_15.out.cell (j := 9) rfl
    have cX_h10_15 := X_h_15.out.cell (j := 10) rfl
    have cX_h11_15 := X_h_15.out.cell (j := 11) rfl
    have cX_h12_15 := X_h_15.out.cell (j := 12) rfl
    go_wp2_with fail
    refine Calls.mono (heldStream_any D v5 D.late.length c5 1 (by omega) hA2 _ M_15.out) ?_
    rintro e w16 ⟨rfl, b16⟩
    have O16 := hid b16.size
    have X_p_16 := hid (X_p_15.out.on b16 X_p_15.out.lt)
    have B_16 := hid (below_via B_15.out b16)
    have R_w_16 := hid (R_w_15.out.on b16)
    have X_w_16 := hid (X_w_15.out.on b16 X_w_15.out.lt)
    have X_x_16 := hid (X_x_15.out.on b16 X_x_15.out.lt)
    have X_g_16 := hid (X_g_15.out.on b16 X_g_15.out.lt)
    have M_16 := hid (M_15.out.on b16)
    have R_h_16 := hid (R_h_15.out.on b16)
    have X_h_16 := hid (X_h_15.out.on b16 X_h_15.out.lt)
    clear b16 X_p_15 B_15 R_w_15 X_w_15 X_x_15 X_g_15 M_15 R_h_15 X_h_15 cX_p0_15 cX_p1_15 cX_p2_15 cX_p3_15 cX_p4_15 cX_p5_15 cX_p6_15 cX_p7_15 cX_p8_15 cX_p9_15 cX_p10_15 cX_p11_15 cX_p12_15 cX_w0_15 cX_w1_15 cX_w2_15 cX_w3_15 cX_w4_15 cX_w5_15 cX_w6_15 cX_w7_15 cX_w8_15 cX_w9_15 cX_w10_15 cX_w11_15 cX_w12_15 cX_x0_15 cX_x1_15 cX_x2_15 cX_x3_15 cX_x4_15 cX_x5_15 cX_x6_15 cX_x7_15 cX_x8_15 cX_x9_15 cX_x10_15 cX_x11_15 cX_x12_15 cX_g0_15 cX_g1_15 cX_g2_15 cX_g3_15 cX_g4_15 cX_g5_15 cX_g6_15 cX_g7_15 cX_g8_15 cX_g9_15 cX_g10_15 cX_g11_15 cX_g12_15 cX_h0_15 cX_h1_15 cX_h2_15 cX_h3_15 cX_h4_15 cX_h5_15 cX_h6_15 cX_h7_15 cX_h8_15 cX_h9_15 cX_h10_15 cX_h11_15 cX_h12_15
    have cX_p0_16 := X_p_16.out.cell (j := 0) rfl
    have cX_p1_16 := X_p_16.out.cell (j := 1) rfl
    have cX_p2_16 := X_p_16.out.cell (j := 2) rfl
    have cX_p3_16 := X_p_16.out.cell (j := 3) rfl
    have cX_p4_16 := X_p_16.out.cell (j := 4) rfl
    have cX_p5_16 := X_p_16.out.cell (j := 5) rfl
    have cX_p6_16 := X_p_16.out.cell (j := 6) rfl
    have cX_p7_16 := X_p_16.out.cell (j := 7) rfl
    have cX_p8_16 := X_p_16.out.cell (j := 8) rfl
    have cX_p9_16 := X_p_16.out.cell (j := 9) rfl
    have cX_p10_16 := X_p_16.out.cell (j := 10) rfl
    have cX_p11_16 := X_p_16.out.cell (j := 11) rfl
    have cX_p12_16 := X_p_16.out.cell (j := 12) rfl
    have cX_w0_16 := X_w_16.out.cell (j := 0) rfl
    have cX_w1_16 := X_w_16.out.cell (j := 1) rfl
    have cX_w2_16 := X_w_16.out.cell (j := 2) rfl
    have cX_w3_16 := X_w_16.out.cell (j := 3) rfl
    have cX_w4_16 := X_w_16.out.cell (j := 4) rfl
    have cX_w5_16 := X_w_16.out.cell (j := 5) rfl
    have cX_w6_16 := X_w_16.out.cell (j := 6) rfl
    have cX_w7_16 := X_w_16.out.cell (j := 7) rfl
    have cX_w8_16 := X_w_16.out.cell (j := 8) rfl
    have cX_w9_16 := X_w_16.out.cell (j := 9) rfl
    have cX_w10_16 := X_w_16.out.cell (j := 10) rfl
    have cX_w11_16 := X_w_16.out.cell (j := 11) rfl
    have cX_w12_16 := X_w_16.out.cell (j := 12) rfl
    have cX_x0_16 := X_x_16.out.cell (j := 0) rfl
    have cX_x1_16 := X_x_16.out.cell (j := 1) rfl
    have cX_x2_16 := X_x_16.out.cell (j := 2) rfl
    have cX_x3_16 := X_x_16.out.cell (j := 3) rfl
    have cX_x4_16 := X_x_16.out.cell (j := 4) rfl
    have cX_x5_16 := X_x_16.out.cell (j := 5) rfl
    have cX_x6_16 := X_x_16.out.cell (j := 6) rfl
    have cX_x7_16 := X_x_16.out.cell (j := 7) rfl
    have cX_x8_16 := X_x_16.out.cell (j := 8) rfl
    have cX_x9_16 := X_x_16.out.cell (j := 9) rfl
    have cX_x10_16 := X_x_16.out.cell (j := 10) rfl
    have cX_x11_16 := X_x_16.out.cell (j := 11) rfl
    have cX_x12_16 := X_x_16.out.cell (j := 12) rfl
    have cX_g0_16 := X_g_16.out.cell (j := 0) rfl
    have cX_g1_16 := X_g_16.out.cell (j := 1) rfl
    have cX_g2_16 := X_g_16.out.cell (j := 2) rfl
    have cX_g3_16 := X_g_16.out.cell (j := 3) rfl
    have cX_g4_16 := X_g_16.out.cell (j := 4) rfl
    have cX_g5_16 := X_g_16.out.cell (j := 5) rfl
    have cX_g6_16 := X_g_16.out.cell (j := 6) rfl
    have cX_g7_16 := X_g_16.out.cell (j := 7) rfl
    have cX_g8_16 := X_g_16.out.cell (j := 8) rfl
    have cX_g9_16 := X_g_16.out.cell (j := 9) rfl
    have cX_g10_16 := X_g_16.out.cell (j := 10) rfl
    have cX_g11_16 := X_g_16.out.cell (j := 11) rfl
    have cX_g12_16 := X_g_16.out.cell (j := 12) rfl
    have cX_h0_16 := X_h_16.out.cell (j := 0) rfl
    have cX_h1_16 := X_h_16.out.cell (j := 1) rfl
    have cX_h2_16 := X_h_16.out.cell (j := 2) rfl
    have cX_h3_16 := X_h_16.out.cell (j := 3) rfl
    have cX_h4_16 := X_h_16.out.cell (j := 4) rfl
    have cX_h5_16 := X_h_16.out.cell (j := 5) rfl
    have cX_h6_16 := X_h_16.out.cell (j := 6) rfl
    have cX_h7_16 := X_h_16.out.cell (j := 7) rfl
    have cX_h8_16 := X_h_16.out.cell (j := 8) rfl
    have cX_h9_16 := X_h_16.out.cell (j := 9) rfl
    have cX_h10_16 := X_h_16.out.cell (j := 10) rfl
    have cX_h11_16 := X_h_16.out.cell (j := 11) rfl
    have cX_h12_16 := X_h_16.out.cell (j := 12) rfl
    go_wp2
    go_ret
    exact ⟨rfl, B_16.out⟩

theorem own : ownKnob Try.prog.godebug = none := by kernel_rfl
theorem laidOut : laidOutB Try.prog = true := by kernel_rfl
theorem rowed : varsRowed Try.prog Rows.fnExactWriteSpec.vars = true := by kernel_rfl
set_option maxRecDepth 1000000 in
theorem contract (H : Type) (enc : TypeId × Value → H) (W : World) (base : Nat) (args : Array Value) (ds gs : List (DataW H)) (before : List MemPlace)
    (hval : ∀ (j : Nat) t v, Try.f5.params[j]? = some t → args[j]? = some v → Value.okWide Try.prog W .any base t v)
    (hW : DataW.Whole enc Try.prog Try.f5.params.toList Rows.fnExactWriteSpec.vars false W args.toList ds gs before) (_hL : laidMetH Try.prog Rows.fnExactWriteRow.laid W) :
    Calls Try.prog 5 args W fun e W' => ∃ v, e = .returned v ∧ Rows.fnExactWriteSpec.post enc Try.prog Try.f5 false true false false W args v W' := by
  have hW' := hW
  obtain ⟨p, q, hA0, hV0, rfl, hfz, hnd⟩ := hW
  have hV : DataW.TrodVars enc Try.prog W (fun _ => true) Rows.fnExactWriteSpec.vars gs q := hV0
  have hA : DataW.TrodAll enc Try.prog W 0 (fun _ => true) true Try.f5.params.toList args.toList ds p := hA0
  rw [Try.params5] at hA hval
  obtain ⟨v0, vs0, d0, ds0, p0, q0, hargs0, rfl, rfl, h0, r0⟩ := trodAll_cons hA
  obtain ⟨v1, vs1, d1, ds1, p1, q1, hargs1, rfl, rfl, h1, r1⟩ := trodAll_cons r0
  subst hargs1
  obtain ⟨rfl, rfl, rfl⟩ := trodAll_nil r1
  obtain rfl : args = #[v0, v1] := by cases args; simp_all
  have k0 := h0
  have lt0 : ∀ x ∈ p0, x.block < W.heap.size := by obtain ⟨m, hm⟩ := k0; exact DataW.trod_lt m _ _ _ hm
  obtain ⟨a0, ao0, cap0, rfl, hfd0, hc0, hm0, hat0, hfit0⟩ := open_str (hval 0 32 v0 rfl rfl) h0
  obtain ⟨a1, rfl, rfl, rfl, w1⟩ := open_string Try.underlying9 (hval 1 9 v1 rfl rfl) h1
  clear hA0 hV0
  obtain ⟨rfl, rfl⟩ := trodVars_none hV
  refine (walk a0 hfd0 ao0 cap0 (Nat.le_trans hc0 hm0) hfit0 a1 w1 W hat0).mono fun e W' ⟨he, bel⟩ => ?_
  subst he
  exact ⟨_, rfl, _, _, _, [], _, [], hW', trodAll_mk1 (shut_bool Try.underlying4 _), trodAll_cons_mk (Below.trod laidOut (by kernel_rfl) (of_decide_eq_true (by kernel_rfl)) k0 bel lt0) (trodAll_cons_mk (shut_string Try.underlying9 w1) (trodAll_mk0)), rfl, bel.frame _, fun h => by cases h⟩

def put (cs : Array Value) : Obj → Obj
  | .cells _ t frozen => .cells cs t frozen
  | o => o

/-- a world for the witness: the tables hold what their initialisers lay -/
def laidWorld (w : World) : World := { w with heap := w.heap }
theorem laid_met (os : Os) : laidMet Try.prog Rows.fnExactWriteRow.laid ((laidWorld (World.holding Try.prog os ⟨#[], #[], []⟩)).forCall (fun _ _ => 0) ⟨#[], #[.agg #[.int .i64 0, .int .i64 0, .int .i64 0, .int .i64 0, .string ByteArray.empty, .int .i64 0, .int .i64 0, .bool false, .string ByteArray.empty, .slice none 0 0, .bool false, .int .i64 0, .int .i64 0], .string ByteArray.empty], []⟩).memory :=
  laidMet_of_run' 8 (by kernel_rfl) (by kernel_rfl)
theorem reads (os : Os) {H : Type} (enc : TypeId × Value → H) : ∃ places, DataW.whole enc Try.prog ((laidWorld (World.holding Try.prog os ⟨#[], #[], []⟩)).forCall (fun _ _ => 0) ⟨#[], #[.agg #[.int .i64 0, .int .i64 0, .int .i64 0, .int .i64 0, .string ByteArray.empty, .int .i64 0, .int .i64 0, .bool false, .string ByteArray.empty, .slice none 0 0, .bool false, .int .i64 0, .int .i64 0], .string ByteArray.empty], []⟩).memory Try.f5.params.toList Rows.fnExactWriteSpec.vars false #[Value.agg #[.int .i64 0, .int .i64 0, .int .i64 0, .int .i64 0, .string ByteArray.empty, .int .i64 0, .int .i64 0, .bool false, .string ByteArray.empty, .slice none 0 0, .bool false, .int .i64 0, .int .i64 0], .string ByteArray.empty].toList 8 = some ([.agg [.lit (.int .i64 0), .lit (.int .i64 0), .lit (.int .i64 0), .lit (.int .i64 0), .lit (.string []), .lit (.int .i64 0), .lit (.int .i64 0), .lit (.bool false), .lit (.string []), .nil, .lit (.bool false), .lit (.int .i64 0), .lit (.int .i64 0)], .lit (.string [])], [], places) :=
  ⟨[], by kernel_rfl⟩

set_option maxRecDepth 1000000 in
theorem lifted (os : Os) (started : os.Started) (H : Type) (enc : TypeId × Value → H) (F : Stop.Interp) :
    ReturnsInHanded {} Try.checked os 5 .any ((OpenSpec.ofChange Rows.fnExactWriteSpec).preRow enc Try.prog Try.f5 Rows.fnExactWriteRow.domain false Rows.fnExactWriteRow.laid) (((OpenSpec.ofChange Rows.fnExactWriteSpec).at F).post enc Try.prog Try.f5 false true false false) := by
  obtain ⟨places, hx⟩ := reads os enc
  refine returnsInHanded_of_row (C := Try.checked) (s := OpenSpec.ofChange Rows.fnExactWriteSpec) own started (by kernel_rfl) Try.func5
    (witness_row_at (enc := enc) (C := Try.checked) false (laidWorld (World.holding Try.prog os ⟨#[], #[], []⟩)) #[.agg #[.int .i64 0, .int .i64 0, .int .i64 0, .int .i64 0, .string ByteArray.empty, .int .i64 0, .int .i64 0, .bool false, .string ByteArray.empty, .slice none 0 0, .bool false, .int .i64 0, .int .i64 0], .string ByteArray.empty] rfl (by kernel_rfl) (by kernel_rfl) (by kernel_rfl)
      (OpenSpec.preRow_of_cond 8 hx (by kernel_rfl) (fun k hk => by cases hk) (by kernel_rfl) (laid_met os))) ?_
  intro W base args ds gs before hval hW _ _ _ hL _ _
  exact contract H enc W base args ds gs before hval hW hL

theorem said : Rows.FnExactWriteSaid :=
  OpenClaim.holds_of_cond 5 Try.f5 rfl rfl rfl rfl rfl rfl rfl ⟨rfl, rfl, rfl, rfl, rfl⟩ rfl rfl rfl rfl rfl (by kernel_rfl) Try.func5 (by kernel_rfl)
    (of_decide_eq_true (by kernel_rfl)) (by unfold Func.isWrapper; first | (rw [if_pos (by decide +kernel)]; kernel_rfl) | (rw [if_neg (by decide +kernel)]; exact ⟨rfl, rfl⟩))
    (fun os started H enc _ F => by rw [OpenClaim.pre_eq_preRow]; exact lifted os started H enc F)

end Go.Proofs.Ythbdkfdcbglpoaa.fnExactWrite
