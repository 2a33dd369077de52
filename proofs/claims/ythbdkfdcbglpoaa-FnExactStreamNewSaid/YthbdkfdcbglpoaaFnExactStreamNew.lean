/-
  For every argument, laws.FnExactStreamNew returns true: impl.StreamNew and spec.StreamNew answer alike, no argument is written, the answer owns its memory; nothing that was in memory is written.
-/
import Derived.Test.YthbdkfdcbglpoaaRows
import Derived.Test.YthbdkfdcbglpoaaEqStr
import Derived.Test.YthbdkfdcbglpoaaMarkStr
import Derived.Test.YthbdkfdcbglpoaaNewDid13
import Derived.Deep.RegionWith
import Derived.WalkSmall
import Derived.WalkKit
import Derived.ProofKit
import Derived.OpenShut
import Derived.OpenVars
import Derived.Deep.DeepHandedRow
import Derived.Lib.LaidTab
import Derived.Stop.LaidErr
namespace Go.Proofs.Ythbdkfdcbglpoaa.fnExactStreamNew
open Go.ChangeShapes Go.WideShapes Go.ChangeAt Go.ChangeMaps Go.RowKit

set_option maxRecDepth 1000000 in
set_option maxHeartbeats 8000000 in
theorem walk (n : Int) (_hn : (Lit.int .i64 n).wf = true) (b : Bool) (w : World) :
    Calls Try.prog 3 #[.int .i64 n, .bool b] w fun e w' => e = .returned (.bool true) ∧ Below w.heap.size w w' := by
  have B := hid (Below.refl w.heap.size w)
  have O0 := hid (Nat.le_refl w.heap.size)
  go_enter Try.func3, Try.ntmps3
  obtain ⟨OK, hOK⟩ : ∃ y, within n 0 65535 = y := ⟨_, rfl⟩
  obtain ⟨D, hF⟩ : ∃ A, newD n b = A := ⟨_, rfl⟩
  have hA2 : D.late.length ≤ 1048576 := by rw [← hF]; have := newD_late n b; omega
  have CQ := hid (specNew_did n b w)
  unfold StrDid2 at CQ
  rw [hF, hOK] at CQ
  go_wp2_with fail
  refine Calls.mono (CQ.out) ?_
  rintro e w1 ⟨v1, c1, rfl, hvc1, h1, b1⟩
  have O1 := hid b1.size
  have R_w := hid h1
  clear h1 hvc1 CQ
  have B_1 := hid (below_via B.out b1)
  clear b1 B
  have ba := below_more (Below.refl w1.heap.size w1) (.cells #[.int .i64 D.st, .int .i64 D.iss, .int .i64 D.una, .int .i64 D.rcv, .string D.wait, .int .i64 D.sent, .int .i64 D.fin, .bool D.pf, .string D.inn, .slice v1 D.late.length c1, .bool D.owe, .int .i64 D.due, .int .i64 D.times] 24)
  have hx : BlockIs (w1.alloc (.cells #[.int .i64 D.st, .int .i64 D.iss, .int .i64 D.una, .int .i64 D.rcv, .string D.wait, .int .i64 D.sent, .int .i64 D.fin, .bool D.pf, .string D.inn, .slice v1 D.late.length c1, .bool D.owe, .int .i64 D.due, .int .i64 D.times] 24)) w1.heap.size 24 [.int .i64 D.st, .int .i64 D.iss, .int .i64 D.una, .int .i64 D.rcv, .string D.wait, .int .i64 D.sent, .int .i64 D.fin, .bool D.pf, .string D.inn, .slice v1 D.late.length c1, .bool D.owe, .int .i64 D.due, .int .i64 D.times] := heap_alloc_new w1 _
  have B_1a := hid (below_via B_1.out ba)
  have R_w_1a := hid (R_w.out.on ba)
  have X_w_1a := hid hx
  have O1a := hid hx.lt
  clear ba hx B_1 R_w
  have cX_w0_1a := X_w_1a.out.cell (j := 0) rfl
  have cX_w1_1a := X_w_1a.out.cell (j := 1) rfl
  have cX_w2_1a := X_w_1a.out.cell (j := 2) rfl
  have cX_w3_1a := X_w_1a.out.cell (j := 3) rfl
  have cX_w4_1a := X_w_1a.out.cell (j := 4) rfl
  have cX_w5_1a := X_w_1a.out.cell (j := 5) rfl
  have cX_w6_1a := X_w_1a.out.cell (j := 6) rfl
  have cX_w7_1a := X_w_1a.out.cell (j := 7) rfl
  have cX_w8_1a := X_w_1a.out.cell (j := 8) rfl
  have cX_w9_1a := X_w_1a.out.cell (j := 9) rfl
  have cX_w10_1a := X_w_1a.out.cell (j := 10) rfl
  have cX_w11_1a := X_w_1a.out.cell (j := 11) rfl
  have cX_w12_1a := X_w_1a.out.cell (j := 12) rfl
  have CQ := hid (implNew_did n b (w1.alloc (.cells #[.int .i64 D.st, .int .i64 D.iss, .int .i64 D.una, .int .i64 D.rcv, .string D.wait, .int .i64 D.sent, .int .i64 D.fin, .bool D.pf, .string D.inn, .slice v1 D.late.length c1, .bool D.owe, .int .i64 D.due, .int .i64 D.times] 24)))
  unfold StrDid2 at CQ
  rw [hF, hOK] at CQ
  go_wp2_with fail
  refine Calls.mono (CQ.out) ?_
  rintro e w2 ⟨v2, c2, rfl, hvc2, h2, b2⟩
  have O2 := hid b2.size
  have R_g := hid h2
  clear h2 hvc2 CQ
  have B_2 := hid (below_via B_1a.out b2)
  have R_w_2 := hid (R_w_1a.out.on b2)
  have X_w_2 := hid (X_w_1a.out.on b2 X_w_1a.out.lt)
  clear b2 B_1a R_w_1a X_w_1a cX_w0_1a cX_w1_1a cX_w2_1a cX_w3_1a cX_w4_1a cX_w5_1a cX_w6_1a cX_w7_1a cX_w8_1a cX_w9_1a cX_w10_1a cX_w11_1a cX_w12_1a
  have cX_w0_2 := X_w_2.out.cell (j := 0) rfl
  have cX_w1_2 := X_w_2.out.cell (j := 1) rfl
  have cX_w2_2 := X_w_2.out.cell (j := 2) rfl
  have cX_w3_2 := X_w_2.out.cell (j := 3) rfl
  have cX_w4_2 := X_w_2.out.cell (j := 4) rfl
  have cX_w5_2 := X_w_2.out.cell (j := 5) rfl
  have cX_w6_2 := X_w_2.out.cell (j := 6) rfl
  have cX_w7_2 := X_w_2.out.cell (j := 7) rfl
  have cX_w8_2 := X_w_2.out.cell (j := 8) rfl
  have cX_w9_2 := X_w_2.out.cell (j := 9) rfl
  have cX_w10_2 := X_w_2.out.cell (j := 10) rfl
  have cX_w11_2 := X_w_2.out.cell (j := 11) rfl
  have cX_w12_2 := X_w_2.out.cell (j := 12) rfl
  have ba := below_more (Below.refl w2.heap.size w2) (.cells #[.int .i64 D.st, .int .i64 D.iss, .int .i64 D.una, .int .i64 D.rcv, .string D.wait, .int .i64 D.sent, .int .i64 D.fin, .bool D.pf, .string D.inn, .slice v2 D.late.length c2, .bool D.owe, .int .i64 D.due, .int .i64 D.times] 24)
  have hx : BlockIs (w2.alloc (.cells #[.int .i64 D.st, .int .i64 D.iss, .int .i64 D.una, .int .i64 D.rcv, .string D.wait, .int .i64 D.sent, .int .i64 D.fin, .bool D.pf, .string D.inn, .slice v2 D.late.length c2, .bool D.owe, .int .i64 D.due, .int .i64 D.times] 24)) w2.heap.size 24 [.int .i64 D.st, .int .i64 D.iss, .int .i64 D.una, .int .i64 D.rcv, .string D.wait, .int .i64 D.sent, .int .i64 D.fin, .bool D.pf, .string D.inn, .slice v2 D.late.length c2, .bool D.owe, .int .i64 D.due, .int .i64 D.times] := heap_alloc_new w2 _
  have B_2a := hid (below_via B_2.out ba)
  have R_w_2a := hid (R_w_2.out.on ba)
  have X_w_2a := hid (X_w_2.out.on ba X_w_2.out.lt)
  have R_g_2a := hid (R_g.out.on ba)
  have X_g_2a := hid hx
  have O2a := hid hx.lt
  clear ba hx B_2 R_w_2 X_w_2 R_g
  have cX_w0_2a := X_w_2a.out.cell (j := 0) rfl
  have cX_w1_2a := X_w_2a.out.cell (j := 1) rfl
  have cX_w2_2a := X_w_2a.out.cell (j := 2) rfl
  have cX_w3_2a := X_w_2a.out.cell (j := 3) rfl
  have cX_w4_2a := X_w_2a.out.cell (j := 4) rfl
  have cX_w5_2a := X_w_2a.out.cell (j := 5) rfl
  have cX_w6_2a := X_w_2a.out.cell (j := 6) rfl
  have cX_w7_2a := X_w_2a.out.cell (j := 7) rfl
  have cX_w8_2a := X_w_2a.out.cell (j := 8) rfl
  have cX_w9_2a := X_w_2a.out.cell (j := 9) rfl
  have cX_w10_2a := X_w_2a.out.cell (j := 10) rfl
  have cX_w11_2a := X_w_2a.out.cell (j := 11) rfl
  have cX_w12_2a := X_w_2a.out.cell (j := 12) rfl
  have cX_g0_2a := X_g_2a.out.cell (j := 0) rfl
  have cX_g1_2a := X_g_2a.out.cell (j := 1) rfl
  have cX_g2_2a := X_g_2a.out.cell (j := 2) rfl
  have cX_g3_2a := X_g_2a.out.cell (j := 3) rfl
  have cX_g4_2a := X_g_2a.out.cell (j := 4) rfl
  have cX_g5_2a := X_g_2a.out.cell (j := 5) rfl
  have cX_g6_2a := X_g_2a.out.cell (j := 6) rfl
  have cX_g7_2a := X_g_2a.out.cell (j := 7) rfl
  have cX_g8_2a := X_g_2a.out.cell (j := 8) rfl
  have cX_g9_2a := X_g_2a.out.cell (j := 9) rfl
  have cX_g10_2a := X_g_2a.out.cell (j := 10) rfl
  have cX_g11_2a := X_g_2a.out.cell (j := 11) rfl
  have cX_g12_2a := X_g_2a.out.cell (j := 12) rfl
  go_wp2_with fail
  refine Calls.mono (eqStream_same D v2 v1 c2 c1 (by omega) _ R_g_2a.out.lates R_w_2a.out.lates) ?_
  rintro e w3 ⟨rfl, b3⟩
  have O3 := hid b3.size
  have B_3 := hid (below_via B_2a.out b3)
  have R_w_3 := hid (R_w_2a.out.on b3)
  have X_w_3 := hid (X_w_2a.out.on b3 X_w_2a.out.lt)
  have R_g_3 := hid (R_g_2a.out.on b3)
  have X_g_3 := hid (X_g_2a.out.on b3 X_g_2a.out.lt)
  clear b3 B_2a R_w_2a X_w_2a R_g_2a X_g_2a cX_w0_2a cX_w1_2a cX_w2_2a cX_w3_2a cX_w4_2a cX_w5_2a cX_w6_2a cX_w7_2a cX_w8_2a cX_w9_2a cX_w10_2a cX_w11_2a cX_w12_2a cX_g0_2a cX_g1_2a cX_g2_2a cX_g3_2a cX_g4_2a cX_g5_2a cX_g6_2a cX_g7_2a cX_g8_2a cX_g9_2a cX_g10_2a cX_g11_2a cX_g12_2a cX_w0_2 cX_w1_2 cX_w2_2 cX_w3_2 cX_w4_2 cX_w5_2 cX_w6_2 cX_w7_2 cX_w8_2 cX_w9_2 cX_w10_2 cX_w11_2 cX_w12_2
  have cX_w0_3 := X_w_3.out.cell (j := 0) rfl
  have cX_w1_3 := X_w_3.out.cell (j := 1) rfl
  have cX_w2_3 := X_w_3.out.cell (j := 2) rfl
  have cX_w3_3 := X_w_3.out.cell (j := 3) rfl
  have cX_w4_3 := X_w_3.out.cell (j := 4) rfl
  have cX_w5_3 := X_w_3.out.cell (j := 5) rfl
  have cX_w6_3 := X_w_3.out.cell (j := 6) rfl
  have cX_w7_3 := X_w_3.out.cell (j := 7) rfl
  have cX_w8_3 := X_w_3.out.cell (j := 8) rfl
  have cX_w9_3 := X_w_3.out.cell (j := 9) rfl
  have cX_w10_3 := X_w_3.out.cell (j := 10) rfl
  have cX_w11_3 := X_w_3.out.cell (j := 11) rfl
  have cX_w12_3 := X_w_3.out.cell (j := 12) rfl
  have cX_g0_3 := X_g_3.out.cell (j := 0) rfl
  have cX_g1_3 := X_g_3.out.cell (j := 1) rfl
  have cX_g2_3 := X_g_3.out.cell (j := 2) rfl
  have cX_g3_3 := X_g_3.out.cell (j := 3) rfl
  have cX_g4_3 := X_g_3.out.cell (j := 4) rfl
  have cX_g5_3 := X_g_3.out.cell (j := 5) rfl
  have cX_g6_3 := X_g_3.out.cell (j := 6) rfl
  have cX_g7_3 := X_g_3.out.cell (j := 7) rfl
  have cX_g8_3 := X_g_3.out.cell (j := 8) rfl
  have cX_g9_3 := X_g_3.out.cell (j := 9) rfl
  have cX_g10_3 := X_g_3.out.cell (j := 10) rfl
  have cX_g11_3 := X_g_3.out.cell (j := 11) rfl
  have cX_g12_3 := X_g_3.out.cell (j := 12) rfl
  go_wp2_with fail
  refine (markStream_o D 1 v2 c2 D.late ((w1.alloc (.cells #[.int .i64 D.st, .int .i64 D.iss, .int .i64 D.una, .int .i64 D.rcv, .string D.wait, .int .i64 D.sent, .int .i64 D.fin, .bool D.pf, .string D.inn, .slice v1 D.late.length c1, .bool D.owe, .int .i64 D.due, .int .i64 D.times] 24)).heap.size) (w2.heap.size) (by omega) (by omega) _ (by have := O0.out; have := O1.out; have := O1a.out; have := O2.out; have := O2a.out; have := O3.out; omega) R_g_3.out).mono ?_
  rintro e w4 ⟨rfl, hm4, kp, b4⟩
  have O4 := hid b4.size
  have B_4 := hid (B_3.out.trans (b4.mono (by have := O0.out; have := O1.out; have := O1a.out; have := O2.out; have := O2a.out; have := O3.out; have := O4.out; omega)))
  have R_w_4 := hid (R_w_3.out.kept kp (by have := O0.out; have := O1.out; have := O1a.out; have := O2.out; have := O2a.out; have := O3.out; have := O4.out; omega))
  have X_w_4 := hid (X_w_3.out.kept kp (by have := O0.out; have := O1.out; have := O1a.out; have := O2.out; have := O2a.out; have := O3.out; have := O4.out; omega))
  have X_g_4 := hid (X_g_3.out.kept kp (by have := O0.out; have := O1.out; have := O1a.out; have := O2.out; have := O2a.out; have := O3.out; have := O4.out; omega))
  clear kp b4 R_g_3 B_3 R_w_3 X_w_3 X_g_3 cX_w0_3 cX_w1_3 cX_w2_3 cX_w3_3 cX_w4_3 cX_w5_3 cX_w6_3 cX_w7_3 cX_w8_3 cX_w9_3 cX_w10_3 cX_w11_3 cX_w12_3 cX_g0_3 cX_g1_3 cX_g2_3 cX_g3_3 cX_g4_3 cX_g5_3 cX_g6_3 cX_g7_3 cX_g8_3 cX_g9_3 cX_g10_3 cX_g11_3 cX_g12_3
  have cX_w0_4 := X_w_4.out.cell (j := 0) rfl
  have cX_w1_4 := X_w_4.out.cell (j := 1) rfl
  have cX_w2_4 := X_w_4.out.cell (j := 2) rfl
  have cX_w3_4 := X_w_4.out.cell (j := 3) rfl
  have cX_w4_4 := X_w_4.out.cell (j := 4) rfl
  have cX_w5_4 := X_w_4.out.cell (j := 5) rfl
  have cX_w6_4 := X_w_4.out.cell (j := 6) rfl
  have cX_w7_4 := X_w_4.out.cell (j := 7) rfl
  have cX_w8_4 := X_w_4.out.cell (j := 8) rfl
  have cX_w9_4 := X_w_4.out.cell (j := 9) rfl
  have cX_w10_4 := X_w_4.out.cell (j := 10) rfl
  have cX_w11_4 := X_w_4.out.cell (j := 11) rfl
  have cX_w12_4 := X_w_4.out.cell (j := 12) rfl
  have cX_g0_4 := X_g_4.out.cell (j := 0) rfl
  have cX_g1_4 := X_g_4.out.cell (j := 1) rfl
  have cX_g2_4 := X_g_4.out.cell (j := 2) rfl
  have cX_g3_4 := X_g_4.out.cell (j := 3) rfl
  have cX_g4_4 := X_g_4.out.cell (j := 4) rfl
  have cX_g5_4 := X_g_4.out.cell (j := 5) rfl
  have cX_g6_4 := X_g_4.out.cell (j := 6) rfl
  have cX_g7_4 := X_g_4.out.cell (j := 7) rfl
  have cX_g8_4 := X_g_4.out.cell (j := 8) rfl
  have cX_g9_4 := X_g_4.out.cell (j := 9) rfl
  have cX_g10_4 := X_g_4.out.cell (j := 10) rfl
  have cX_g11_4 := X_g_4.out.cell (j := 11) rfl
  have cX_g12_4 := X_g_4.out.cell (j := 12) rfl
  have M_4 := hid hm4
  clear hm4
  go_wp2_with fail
  refine Calls.mono (heldStream_any D v2 D.late.length c2 1 (by omega) hA2 _ M_4.out) ?_
  rintro e w5 ⟨rfl, b5⟩
  have O5 := hid b5.size
  have B_5 := hid (below_via B_4.out b5)
  have R_w_5 := hid (R_w_4.out.on b5)
  have X_w_5 := hid (X_w_4.out.on b5 X_w_4.out.lt)
  have X_g_5 := hid (X_g_4.out.on b5 X_g_4.out.lt)
  have M_5 := hid (M_4.out.on b5)
  clear b5 B_4 R_w_4 X_w_4 X_g_4 M_4 cX_w0_4 cX_w1_4 cX_w2_4 cX_w3_4 cX_w4_4 cX_w5_4 cX_w6_4 cX_w7_4 cX_w8_4 cX_w9_4 cX_w10_4 cX_w11_4 cX_w12_4 cX_g0_4 cX_g1_4 cX_g2_4 cX_g3_4 cX_g4_4 cX_g5_4 cX_g6_4 cX_g7_4 cX_g8_4 cX_g9_4 cX_g10_4 cX_g11_4 cX_g12_4
  have cX_w0_5 := X_w_5.out.cell (j := 0) rfl
  have cX_w1_5 := X_w_5.out.cell (j := 1) rfl
  have cX_w2_5 := X_w_5.out.cell (j := 2) rfl
  have cX_w3_5 := X_w_5.out.cell (j := 3) rfl
  have cX_w4_5 := X_w_5.out.cell (j := 4) rfl
  have cX_w5_5 := X_w_5.out.cell (j := 5) rfl
  have cX_w6_5 := X_w_5.out.cell (j := 6) rfl
  have cX_w7_5 := X_w_5.out.cell (j := 7) rfl
  have cX_w8_5 := X_w_5.out.cell (j := 8) rfl
  have cX_w9_5 := X_w_5.out.cell (j := 9) rfl
  have cX_w10_5 := X_w_5.out.cell (j := 10) rfl
  have cX_w11_5 := X_w_5.out.cell (j := 11) rfl
  have cX_w12_5 := X_w_5.out.cell (j := 12) rfl
  have cX_g0_5 := X_g_5.out.cell (j := 0) rfl
  have cX_g1_5 := X_g_5.out.cell (j := 1) rfl
  have cX_g2_5 := X_g_5.out.cell (j := 2) rfl
  have cX_g3_5 := X_g_5.out.cell (j := 3) rfl
  have cX_g4_5 := X_g_5.out.cell (j := 4) rfl
  have cX_g5_5 := X_g_5.out.cell (j := 5) rfl
  have cX_g6_5 := X_g_5.out.cell (j := 6) rfl
  have cX_g7_5 := X_g_5.out.cell (j := 7) rfl
  have cX_g8_5 := X_g_5.out.cell (j := 8) rfl
  have cX_g9_5 := X_g_5.out.cell (j := 9) rfl
  have cX_g10_5 := X_g_5.out.cell (j := 10) rfl
  have cX_g11_5 := X_g_5.out.cell (j := 11) rfl
  have cX_g12_5 := X_g_5.out.cell (j := 12) rfl
  have CQ := hid (implNew_did n b w5)
  unfold StrDid2 at CQ
  rw [hF, hOK] at CQ
  go_wp2_with fail
  refine Calls.mono (CQ.out) ?_
  rintro e w6 ⟨v6, c6, rfl, hvc6, h6, b6⟩
  have O6 := hid b6.size
  have R_h := hid h6
  clear h6 hvc6 CQ
  have B_6 := hid (below_via B_5.out b6)
  have R_w_6 := hid (R_w_5.out.on b6)
  have X_w_6 := hid (X_w_5.out.on b6 X_w_5.out.lt)
  have X_g_6 := hid (X_g_5.out.on b6 X_g_5.out.lt)
  have M_6 := hid (M_5.out.on b6)
  clear b6 B_5 R_w_5 X_w_5 X_g_5 M_5 cX_w0_5 cX_w1_5 cX_w2_5 cX_w3_5 cX_w4_5 cX_w5_5 cX_w6_5 cX_w7_5 cX_w8_5 cX_w9_5 cX_w10_5 cX_w11_5 cX_w12_5 cX_g0_5 cX_g1_5 cX_g2_5 cX_g3_5 cX_g4_5 cX_g5_5 cX_g6_5 cX_g7_5 cX_g8_5 cX_g9_5 cX_g10_5 cX_g11_5 cX_g12_5
  have cX_w0_6 := X_w_6.out.cell (j := 0) rfl
  have cX_w1_6 := X_w_6.out.cell (j := 1) rfl
  have cX_w2_6 := X_w_6.out.cell (j := 2) rfl
  have cX_w3_6 := X_w_6.out.cell (j := 3) rfl
  have cX_w4_6 := X_w_6.out.cell (j := 4) rfl
  have cX_w5_6 := X_w_6.out.cell (j := 5) rfl
  have cX_w6_6 := X_w_6.out.cell (j := 6) rfl
  have cX_w7_6 := X_w_6.out.cell (j := 7) rfl
  have cX_w8_6 := X_w_6.out.cell (j := 8) rfl
  have cX_w9_6 := X_w_6.out.cell (j := 9) rfl
  have cX_w10_6 := X_w_6.out.cell (j := 10) rfl
  have cX_w11_6 := X_w_6.out.cell (j := 11) rfl
  have cX_w12_6 := X_w_6.out.cell (j := 12) rfl
  have cX_g0_6 := X_g_6.out.cell (j := 0) rfl
  have cX_g1_6 := X_g_6.out.cell (j := 1) rfl
  have cX_g2_6 := X_g_6.out.cell (j := 2) rfl
  have cX_g3_6 := X_g_6.out.cell (j := 3) rfl
  have cX_g4_6 := X_g_6.out.cell (j := 4) rfl
  have cX_g5_6 := X_g_6.out.cell (j := 5) rfl
  have cX_g6_6 := X_g_6.out.cell (j := 6) rfl
  have cX_g7_6 := X_g_6.out.cell (j := 7) rfl
  have cX_g8_6 := X_g_6.out.cell (j := 8) rfl
  have cX_g9_6 := X_g_6.out.cell (j := 9) rfl
  have cX_g10_6 := X_g_6.out.cell (j := 10) rfl
  have cX_g11_6 := X_g_6.out.cell (j := 11) rfl
  have cX_g12_6 := X_g_6.out.cell (j := 12) rfl
  have ba := below_more (Below.refl w6.heap.size w6) (.cells #[.int .i64 D.st, .int .i64 D.iss, .int .i64 D.una, .int .i64 D.rcv, .string D.wait, .int .i64 D.sent, .int .i64 D.fin, .bool D.pf, .string D.inn, .slice v6 D.late.length c6, .bool D.owe, .int .i64 D.due, .int .i64 D.times] 24)
  have hx : BlockIs (w6.alloc (.cells #[.int .i64 D.st, .int .i64 D.iss, .int .i64 D.una, .int .i64 D.rcv, .string D.wait, .int .i64 D.sent, .int .i64 D.fin, .bool D.pf, .string D.inn, .slice v6 D.late.length c6, .bool D.owe, .int .i64 D.due, .int .i64 D.times] 24)) w6.heap.size 24 [.int .i64 D.st, .int .i64 D.iss, .int .i64 D.una, .int .i64 D.rcv, .string D.wait, .int .i64 D.sent, .int .i64 D.fin, .bool D.pf, .string D.inn, .slice v6 D.late.length c6, .bool D.owe, .int .i64 D.due, .int .i64 D.times] := heap_alloc_new w6 _
  have B_6a := hid (below_via B_6.out ba)
  have R_w_6a := hid (R_w_6.out.on ba)
  have X_w_6a := hid (X_w_6.out.on ba X_w_6.out.lt)
  have X_g_6a := hid (X_g_6.out.on ba X_g_6.out.lt)
  have M_6a := hid (M_6.out.on ba)
  have R_h_6a := hid (R_h.out.on ba)
  have X_h_6a := hid hx
  have O6a := hid hx.lt
  clear ba hx B_6 R_w_6 X_w_6 X_g_6 M_6 R_h
  have cX_w0_6a := X_w_6a.out.cell (j := 0) rfl
  have cX_w1_6a := X_w_6a.out.cell (j := 1) rfl
  have cX_w2_6a := X_w_6a.out.cell (j := 2) rfl
  have cX_w3_6a := X_w_6a.out.cell (j := 3) rfl
  have cX_w4_6a := X_w_6a.out.cell (j := 4) rfl
  have cX_w5_6a := X_w_6a.out.cell (j := 5) rfl
  have cX_w6_6a := X_w_6a.out.cell (j := 6) rfl
  have cX_w7_6a := X_w_6a.out.cell (j := 7) rfl
  have cX_w8_6a := X_w_6a.out.cell (j := 8) rfl
  have cX_w9_6a := X_w_6a.out.cell (j := 9) rfl
  have cX_w10_6a := X_w_6a.out.cell (j := 10) rfl
  have cX_w11_6a := X_w_6a.out.cell (j := 11) rfl
  have cX_w12_6a := X_w_6a.out.cell (j := 12) rfl
  have cX_g0_6a := X_g_6a.out.cell (j := 0) rfl
  have cX_g1_6a := X_g_6a.out.cell (j := 1) rfl
  have cX_g2_6a := X_g_6a.out.cell (j := 2) rfl
  have cX_g3_6a := X_g_6a.out.cell (j := 3) rfl
  have cX_g4_6a := X_g_6a.out.cell (j := 4) rfl
  have cX_g5_6a := X_g_6a.out.cell (j := 5) rfl
  have cX_g6_6a := X_g_6a.out.cell (j := 6) rfl
  have cX_g7_6a := X_g_6a.out.cell (j := 7) rfl
  have cX_g8_6a := X_g_6a.out.cell (j := 8) rfl
  have cX_g9_6a := X_g_6a.out.cell (j := 9) rfl
  have cX_g10_6a := X_g_6a.out.cell (j := 10) rfl
  have cX_g11_6a := X_g_6a.out.cell (j := 11) rfl
  have cX_g12_6a := X_g_6a.out.cell (j := 12) rfl
  have cX_h0_6a := X_h_6a.out.cell (j := 0) rfl
  have cX_h1_6a := X_h_6a.out.cell (j := 1) rfl
  have cX_h2_6a := X_h_6a.out.cell (j := 2) rfl
  have cX_h3_6a := X_h_6a.out.cell (j := 3) rfl
  have cX_h4_6a := X_h_6a.out.cell (j := 4) rfl
  have cX_h5_6a := X_h_6a.out.cell (j := 5) rfl
  have cX_h6_6a := X_h_6a.out.cell (j := 6) rfl
  have cX_h7_6a := X_h_6a.out.cell (j := 7) rfl
  have cX_h8_6a := X_h_6a.out.cell (j := 8) rfl
  have cX_h9_6a := X_h_6a.out.cell (j := 9) rfl
  have cX_h10_6a := X_h_6a.out.cell (j := 10) rfl
  have cX_h11_6a := X_h_6a.out.cell (j := 11) rfl
  have cX_h12_6a := X_h_6a.out.cell (j := 12) rfl
  go_wp2_with fail
  refine Calls.mono (eqStream_same D v6 v1 c6 c1 (by omega) _ R_h_6a.out.lates R_w_6a.out.lates) ?_
  rintro e w7 ⟨rfl, b7⟩
  have O7 := hid b7.size
  have B_7 := hid (below_via B_6a.out b7)
  have R_w_7 := hid (R_w_6a.out.on b7)
  have X_w_7 := hid (X_w_6a.out.on b7 X_w_6a.out.lt)
  have X_g_7 := hid (X_g_6a.out.on b7 X_g_6a.out.lt)
  have M_7 := hid (M_6a.out.on b7)
  have R_h_7 := hid (R_h_6a.out.on b7)
  have X_h_7 := hid (X_h_6a.out.on b7 X_h_6a.out.lt)
  clear b7 B_6a R_w_6a X_w_6a X_g_6a M_6a R_h_6a X_h_6a cX_w0_6a cX_w1_6a cX_w2_6a cX_w3_6a cX_w4_6a cX_w5_6a cX_w6_6a cX_w7_6a cX_w8_6a cX_w9_6a cX_w10_6a cX_w11_6a cX_w12_6a cX_g0_6a cX_g1_6a cX_g2_6a cX_g3_6a cX_g4_6a cX_g5_6a cX_g6_6a cX_g7_6a cX_g8_6a cX_g9_6a cX_g10_6a cX_g11_6a cX_g12_6a cX_h0_6a cX_h1_6a cX_h2_6a cX_h3_6a cX_h4_6a cX_h5_6a cX_h6_6a cX_h7_6a cX_h8_6a cX_h9_6a cX_h10_6a cX_h11_6a cX_h12_6a cX_w0_6 cX_w1_6 cX_w2_6 cX_w3_6 cX_w4_6 cX_w5_6 cX_w6_6 cX_w7_6 cX_w8_6 cX_w9_6 cX_w10_6 cX_w11_6 cX_w12_6 cX_g0_6 cX_g1_6 cX_g2_6 cX_g3_6 cX_g4_6 cX_g5_6 cX_g6_6 cX_g7_6 cX_g8_6 cX_g9_6 cX_g10_6 cX_g11_6 cX_g12_6
  have cX_w0_7 := X_w_7.out.cell (j := 0) rfl
  have cX_w1_7 := X_w_7.out.cell (j := 1) rfl
  have cX_w2_7 := X_w_7.out.cell (j := 2) rfl
  have cX_w3_7 := X_w_7.out.cell (j := 3) rfl
  have cX_w4_7 := X_w_7.out.cell (j := 4) rfl
  have cX_w5_7 := X_w_7.out.cell (j := 5) rfl
  have cX_w6_7 := X_w_7.out.cell (j := 6) rfl
  have cX_w7_7 := X_w_7.out.cell (j := 7) rfl
  have cX_w8_7 := X_w_7.out.cell (j := 8) rfl
  have cX_w9_7 := X_w_7.out.cell (j := 9) rfl
  have cX_w10_7 := X_w_7.out.cell (j := 10) rfl
  have cX_w11_7 := X_w_7.out.cell (j := 11) rfl
  have cX_w12_7 := X_w_7.out.cell (j := 12) rfl
  have cX_g0_7 := X_g_7.out.cell (j := 0) rfl
  have cX_g1_7 := X_g_7.out.cell (j := 1) rfl
  have cX_g2_7 := X_g_7.out.cell (j := 2) rfl
  have cX_g3_7 := X_g_7.out.cell (j := 3) rfl
  have cX_g4_7 := X_g_7.out.cell (j := 4) rfl
  have cX_g5_7 := X_g_7.out.cell (j := 5) rfl
  have cX_g6_7 := X_g_7.out.cell (j := 6) rfl
  have cX_g7_7 := X_g_7.out.cell (j := 7) rfl
  have cX_g8_7 := X_g_7.out.cell (j := 8) rfl
  have cX_g9_7 := X_g_7.out.cell (j := 9) rfl
  have cX_g10_7 := X_g_7.out.cell (j := 10) rfl
  have cX_g11_7 := X_g_7.out.cell (j := 11) rfl
  have cX_g12_7 := X_g_7.out.cell (j := 12) rfl
  have cX_h0_7 := X_h_7.out.cell (j := 0) rfl
  have cX_h1_7 := X_h_7.out.cell (j := 1) rfl
  have cX_h2_7 := X_h_7.out.cell (j := 2) rfl
  have cX_h3_7 := X_h_7.out.cell (j := 3) rfl
  have cX_h4_7 := X_h_7.out.cell (j := 4) rfl
  have cX_h5_7 := X_h_7.out.cell (j := 5) rfl
  have cX_h6_7 := X_h_7.out.cell (j := 6) rfl
  have cX_h7_7 := X_h_7.out.cell (j := 7) rfl
  have cX_h8_7 := X_h_7.out.cell (j := 8) rfl
  have cX_h9_7 := X_h_7.out.cell (j := 9) rfl
  have cX_h10_7 := X_h_7.out.cell (j := 10) rfl
  have cX_h11_7 := X_h_7.out.cell (j := 11) rfl
  have cX_h12_7 := X_h_7.out.cell (j := 12) rfl
  go_wp2_with fail
  refine Calls.mono (heldStream_any D v2 D.late.length c2 1 (by omega) hA2 _ M_7.out) ?_
  rintro e w8 ⟨rfl, b8⟩
  have O8 := hid b8.size
  have B_8 := hid (below_via B_7.out b8)
  have R_w_8 := hid (R_w_7.out.on b8)
  have X_w_8 := hid (X_w_7.out.on b8 X_w_7.out.lt)
  have X_g_8 := hid (X_g_7.out.on b8 X_g_7.out.lt)
  have M_8 := hid (M_7.out.on b8)
  have R_h_8 := hid (R_h_7.out.on b8)
  have X_h_8 := hid (X_h_7.out.on b8 X_h_7.out.lt)
  clear b8 B_7 R_w_7 X_w_7 X_g_7 M_7 R_h_7 X_h_7 cX_w0_7 cX_w1_7 cX_w2_7 cX_w3_7 cX_w4_7 cX_w5_7 cX_w6_7 cX_w7_7 cX_w8_7 cX_w9_7 cX_w10_7 cX_w11_7 cX_w12_7 cX_g0_7 cX_g1_7 cX_g2_7 cX_g3_7 cX_g4_7 cX_g5_7 cX_g6_7 cX_g7_7 cX_g8_7 cX_g9_7 cX_g10_7 cX_g11_7 cX_g12_7 cX_h0_7 cX_h1_7 cX_h2_7 cX_h3_7 cX_h4_7 cX_h5_7 cX_h6_7 cX_h7_7 cX_h8_7 cX_h9_7 cX_h10_7 cX_h11_7 cX_h12_7
  have cX_w0_8 := X_w_8.out.cell (j := 0) rfl
  have cX_w1_8 := X_w_8.out.cell (j := 1) rfl
  have cX_w2_8 := X_w_8.out.cell (j := 2) rfl
  have cX_w3_8 := X_w_8.out.cell (j := 3) rfl
  have cX_w4_8 := X_w_8.out.cell (j := 4) rfl
  have cX_w5_8 := X_w_8.out.cell (j := 5) rfl
  have cX_w6_8 := X_w_8.out.cell (j := 6) rfl
  have cX_w7_8 := X_w_8.out.cell (j := 7) rfl
  have cX_w8_8 := X_w_8.out.cell (j := 8) rfl
  have cX_w9_8 := X_w_8.out.cell (j := 9) rfl
  have cX_w10_8 := X_w_8.out.cell (j := 10) rfl
  have cX_w11_8 := X_w_8.out.cell (j := 11) rfl
  have cX_w12_8 := X_w_8.out.cell (j := 12) rfl
  have cX_g0_8 := X_g_8.out.cell (j := 0) rfl
  have cX_g1_8 := X_g_8.out.cell (j := 1) rfl
  have cX_g2_8 := X_g_8.out.cell (j := 2) rfl
  have cX_g3_8 := X_g_8.out.cell (j := 3) rfl
  have cX_g4_8 := X_g_8.out.cell (j := 4) rfl
  have cX_g5_8 := X_g_8.out.cell (j := 5) rfl
  have cX_g6_8 := X_g_8.out.cell (j := 6) rfl
  have cX_g7_8 := X_g_8.out.cell (j := 7) rfl
  have cX_g8_8 := X_g_8.out.cell (j := 8) rfl
  have cX_g9_8 := X_g_8.out.cell (j := 9) rfl
  have cX_g10_8 := X_g_8.out.cell (j := 10) rfl
  have cX_g11_8 := X_g_8.out.cell (j := 11) rfl
  have cX_g12_8 := X_g_8.out.cell (j := 12) rfl
  have cX_h0_8 := X_h_8.out.cell (j := 0) rfl
  have cX_h1_8 := X_h_8.out.cell (j := 1) rfl
  have cX_h2_8 := X_h_8.out.cell (j := 2) rfl
  have cX_h3_8 := X_h_8.out.cell (j := 3) rfl
  have cX_h4_8 := X_h_8.out.cell (j := 4) rfl
  have cX_h5_8 := X_h_8.out.cell (j := 5) rfl
  have cX_h6_8 := X_h_8.out.cell (j := 6) rfl
  have cX_h7_8 := X_h_8.out.cell (j := 7) rfl
  have cX_h8_8 := X_h_8.out.cell (j := 8) rfl
  have cX_h9_8 := X_h_8.out.cell (j := 9) rfl
  have cX_h10_8 := X_h_8.out.cell (j := 10) rfl
  have cX_h11_8 := X_h_8.out.cell (j := 11) rfl
  have cX_h12_8 := X_h_8.out.cell (j := 12) rfl
  go_wp2
  go_ret
  exact ⟨rfl, B_8.out⟩

theorem own : ownKnob Try.prog.godebug = none := by kernel_rfl
theorem laidOut : laidOutB Try.prog = true := by kernel_rfl
theorem rowed : varsRowed Try.prog Rows.fnExactStreamNewSpec.vars = true := by kernel_rfl
set_option maxRecDepth 1000000 in
theorem contract (H : Type) (enc : TypeId × Value → H) (W : World) (base : Nat) (args : Array Value) (ds gs : List (DataW H)) (before : List MemPlace)
    (hval : ∀ (j : Nat) t v, Try.f3.params[j]? = some t → args[j]? = some v → Value.okWide Try.prog W .any base t v)
    (hW : DataW.Whole enc Try.prog Try.f3.params.toList Rows.fnExactStreamNewSpec.vars false W args.toList ds gs before) (_hL : laidMetH Try.prog Rows.fnExactStreamNewRow.laid W) :
    Calls Try.prog 3 args W fun e W' => ∃ v, e = .returned v ∧ Rows.fnExactStreamNewSpec.post enc Try.prog Try.f3 false true false false W args v W' := by
  have hW' := hW
  obtain ⟨p, q, hA0, hV0, rfl, hfz, hnd⟩ := hW
  have hV : DataW.TrodVars enc Try.prog W (fun _ => true) Rows.fnExactStreamNewSpec.vars gs q := hV0
  have hA : DataW.TrodAll enc Try.prog W 0 (fun _ => true) true Try.f3.params.toList args.toList ds p := hA0
  rw [Try.params3] at hA hval
  obtain ⟨v0, vs0, d0, ds0, p0, q0, hargs0, rfl, rfl, h0, r0⟩ := trodAll_cons hA
  obtain ⟨v1, vs1, d1, ds1, p1, q1, hargs1, rfl, rfl, h1, r1⟩ := trodAll_cons r0
  subst hargs1
  obtain ⟨rfl, rfl, rfl⟩ := trodAll_nil r1
  obtain rfl : args = #[v0, v1] := by cases args; simp_all
  obtain ⟨a0, rfl, rfl, rfl, w0⟩ := open_int Try.underlying3 (hval 0 3 v0 rfl rfl) h0
  obtain ⟨a1, rfl, rfl, rfl⟩ := open_bool Try.underlying4 (hval 1 4 v1 rfl rfl) h1
  clear hA0 hV0
  obtain ⟨rfl, rfl⟩ := trodVars_none hV
  refine (walk a0 w0 a1 W ).mono fun e W' ⟨he, bel⟩ => ?_
  subst he
  exact ⟨_, rfl, _, _, _, [], _, [], hW', trodAll_mk1 (shut_bool Try.underlying4 _), trodAll_cons_mk (shut_int Try.underlying3 w0) (trodAll_cons_mk (shut_bool Try.underlying4 _) (trodAll_mk0)), rfl, bel.frame _, fun h => by cases h⟩

def put (cs : Array Value) : Obj → Obj
  | .cells _ t frozen => .cells cs t frozen
  | o => o

/-- a world for the witness: the tables hold what their initialisers lay -/
def laidWorld (w : World) : World := { w with heap := w.heap }
theorem laid_met (os : Os) : laidMet Try.prog Rows.fnExactStreamNewRow.laid ((laidWorld (World.holding Try.prog os ⟨#[], #[], []⟩)).forCall (fun _ _ => 0) ⟨#[], #[.int .i64 0, .bool false], []⟩).memory :=
  laidMet_of_run' 8 (by kernel_rfl) (by kernel_rfl)
theorem reads (os : Os) {H : Type} (enc : TypeId × Value → H) : ∃ places, DataW.whole enc Try.prog ((laidWorld (World.holding Try.prog os ⟨#[], #[], []⟩)).forCall (fun _ _ => 0) ⟨#[], #[.int .i64 0, .bool false], []⟩).memory Try.f3.params.toList Rows.fnExactStreamNewSpec.vars false #[Value.int .i64 0, .bool false].toList 8 = some ([.lit (.int .i64 0), .lit (.bool false)], [], places) :=
  ⟨[], by kernel_rfl⟩

set_option maxRecDepth 1000000 in
theorem lifted (os : Os) (started : os.Started) (H : Type) (enc : TypeId × Value → H) (F : Stop.Interp) :
    ReturnsInHanded {} Try.checked os 3 .any ((OpenSpec.ofChange Rows.fnExactStreamNewSpec).preRow enc Try.prog Try.f3 Rows.fnExactStreamNewRow.domain false Rows.fnExactStreamNewRow.laid) (((OpenSpec.ofChange Rows.fnExactStreamNewSpec).at F).post enc Try.prog Try.f3 false true false false) := by
  obtain ⟨places, hx⟩ := reads os enc
  refine returnsInHanded_of_row (C := Try.checked) (s := OpenSpec.ofChange Rows.fnExactStreamNewSpec) own started (by kernel_rfl) Try.func3
    (witness_row_at (enc := enc) (C := Try.checked) false (laidWorld (World.holding Try.prog os ⟨#[], #[], []⟩)) #[.int .i64 0, .bool false] rfl (by kernel_rfl) (by kernel_rfl) (by kernel_rfl)
      (OpenSpec.preRow_of_cond 8 hx (by kernel_rfl) (fun k hk => by cases hk) (by kernel_rfl) (laid_met os))) ?_
  intro W base args ds gs before hval hW _ _ _ hL _ _
  exact contract H enc W base args ds gs before hval hW hL

theorem said : Rows.FnExactStreamNewSaid :=
  OpenClaim.holds_of_cond 3 Try.f3 rfl rfl rfl rfl rfl rfl rfl ⟨rfl, rfl, rfl, rfl, rfl⟩ rfl rfl rfl rfl rfl (by kernel_rfl) Try.func3 (by kernel_rfl)
    (of_decide_eq_true (by kernel_rfl)) (by unfold Func.isWrapper; first | (rw [if_pos (by decide +kernel)]; kernel_rfl) | (rw [if_neg (by decide +kernel)]; exact ⟨rfl, rfl⟩))
    (fun os started H enc _ F => by rw [OpenClaim.pre_eq_preRow]; exact lifted os started H enc F)

end Go.Proofs.Ythbdkfdcbglpoaa.fnExactStreamNew
