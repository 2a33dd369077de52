/-
  For every argument, laws.FnExactEndsNew returns true: impl.EndsNew and spec.EndsNew answer alike, the answer owns its memory, a second call answers so again; nothing that was in memory is written.
-/
import Derived.Test.YthkkhmmcgjcedaaRows
import Derived.Test.YthkkhmmcgjcedaaEndsAll
import Derived.Test.YthkkhmmcgjcedaaEndsNewS
import Derived.Test.YthkkhmmcgjcedaaEndsNewI
import Derived.WalkSmall
import Derived.WalkKit
import Derived.ProofKit
import Derived.OpenShut
import Derived.OpenVars
import Derived.Deep.DeepHandedRow
import Derived.Lib.LaidTab
import Derived.Stop.LaidErr
namespace Go.Proofs.Ythkkhmmcgjcedaa.fnExactEndsNew
open Go.ChangeShapes Go.WideShapes Go.ChangeAt Go.ChangeMaps Go.RowKit

set_option maxRecDepth 1000000 in
set_option maxHeartbeats 4000000 in
theorem core_no (a b : Int) (w : World) (CS : Hid (∀ w, Calls Try.prog 8 #[.int .i64 a, .int .i64 b] w fun e w' => e = .returned (.tuple #[.agg #[.slice none 0 0, .slice none 0 0, .slice none 0 0, .slice none 0 0, .int .i64 0], .bool false]) ∧ Below w.heap.size w w')) (CI : Hid (∀ w, Calls Try.prog 9 #[.int .i64 a, .int .i64 b] w fun e w' => e = .returned (.tuple #[.agg #[.slice none 0 0, .slice none 0 0, .slice none 0 0, .slice none 0 0, .int .i64 0], .bool false]) ∧ Below w.heap.size w w')) :
    Calls Try.prog 4 #[.int .i64 a, .int .i64 b] w fun e w' => e = .returned (.bool true) ∧ Below w.heap.size w w' := by
  have B := hid (Below.refl w.heap.size w)
  have O0 := hid (Nat.le_refl w.heap.size)
  go_enter Try.func4, Try.ntmps4
  go_wp2_with fail
  refine Calls.mono (CS.out _) ?_
  rintro e w1 ⟨rfl, b1⟩
  have O1 := hid b1.size
  have B_1 := hid (below_via B.out b1)
  clear b1 B
  have ba := below_more (Below.refl w1.heap.size w1) (.cells #[.slice none 0 0, .slice none 0 0, .slice none 0 0, .slice none 0 0, .int .i64 0] 33)
  have hx : BlockIs (w1.alloc (.cells #[.slice none 0 0, .slice none 0 0, .slice none 0 0, .slice none 0 0, .int .i64 0] 33)) w1.heap.size 33 [.slice none 0 0, .slice none 0 0, .slice none 0 0, .slice none 0 0, .int .i64 0] := heap_alloc_new w1 _
  have B_1a := hid (below_via B_1.out ba)
  have X_w_1a := hid hx
  have O1a := hid hx.lt
  clear ba hx B_1
  have cX_w0_1a := X_w_1a.out.cell (j := 0) rfl
  have cX_w1_1a := X_w_1a.out.cell (j := 1) rfl
  have cX_w2_1a := X_w_1a.out.cell (j := 2) rfl
  have cX_w3_1a := X_w_1a.out.cell (j := 3) rfl
  have cX_w4_1a := X_w_1a.out.cell (j := 4) rfl
  go_wp2_with fail
  refine Calls.mono (CI.out _) ?_
  rintro e w2 ⟨rfl, b2⟩
  have O2 := hid b2.size
  have B_2 := hid (below_via B_1a.out b2)
  have X_w_2 := hid (X_w_1a.out.on b2 X_w_1a.out.lt)
  clear b2 B_1a X_w_1a cX_w0_1a cX_w1_1a cX_w2_1a cX_w3_1a cX_w4_1a
  have cX_w0_2 := X_w_2.out.cell (j := 0) rfl
  have cX_w1_2 := X_w_2.out.cell (j := 1) rfl
  have cX_w2_2 := X_w_2.out.cell (j := 2) rfl
  have cX_w3_2 := X_w_2.out.cell (j := 3) rfl
  have cX_w4_2 := X_w_2.out.cell (j := 4) rfl
  have ba := below_more (Below.refl w2.heap.size w2) (.cells #[.slice none 0 0, .slice none 0 0, .slice none 0 0, .slice none 0 0, .int .i64 0] 33)
  have hx : BlockIs (w2.alloc (.cells #[.slice none 0 0, .slice none 0 0, .slice none 0 0, .slice none 0 0, .int .i64 0] 33)) w2.heap.size 33 [.slice none 0 0, .slice none 0 0, .slice none 0 0, .slice none 0 0, .int .i64 0] := heap_alloc_new w2 _
  have B_2a := hid (below_via B_2.out ba)
  have X_w_2a := hid (X_w_2.out.on ba X_w_2.out.lt)
  have X_g_2a := hid hx
  have O2a := hid hx.lt
  clear ba hx B_2 X_w_2
  have cX_w0_2a := X_w_2a.out.cell (j := 0) rfl
  have cX_w1_2a := X_w_2a.out.cell (j := 1) rfl
  have cX_w2_2a := X_w_2a.out.cell (j := 2) rfl
  have cX_w3_2a := X_w_2a.out.cell (j := 3) rfl
  have cX_w4_2a := X_w_2a.out.cell (j := 4) rfl
  have cX_g0_2a := X_g_2a.out.cell (j := 0) rfl
  have cX_g1_2a := X_g_2a.out.cell (j := 1) rfl
  have cX_g2_2a := X_g_2a.out.cell (j := 2) rfl
  have cX_g3_2a := X_g_2a.out.cell (j := 3) rfl
  have cX_g4_2a := X_g_2a.out.cell (j := 4) rfl
  go_wp2_with fail
  refine Calls.mono (eqEnds_none _) ?_
  rintro e w3 ⟨rfl, b3⟩
  have O3 := hid b3.size
  have B_3 := hid (below_via B_2a.out b3)
  have X_w_3 := hid (X_w_2a.out.on b3 X_w_2a.out.lt)
  have X_g_3 := hid (X_g_2a.out.on b3 X_g_2a.out.lt)
  clear b3 B_2a X_w_2a X_g_2a cX_w0_2a cX_w1_2a cX_w2_2a cX_w3_2a cX_w4_2a cX_g0_2a cX_g1_2a cX_g2_2a cX_g3_2a cX_g4_2a cX_w0_2 cX_w1_2 cX_w2_2 cX_w3_2 cX_w4_2
  have cX_w0_3 := X_w_3.out.cell (j := 0) rfl
  have cX_w1_3 := X_w_3.out.cell (j := 1) rfl
  have cX_w2_3 := X_w_3.out.cell (j := 2) rfl
  have cX_w3_3 := X_w_3.out.cell (j := 3) rfl
  have cX_w4_3 := X_w_3.out.cell (j := 4) rfl
  have cX_g0_3 := X_g_3.out.cell (j := 0) rfl
  have cX_g1_3 := X_g_3.out.cell (j := 1) rfl
  have cX_g2_3 := X_g_3.out.cell (j := 2) rfl
  have cX_g3_3 := X_g_3.out.cell (j := 3) rfl
  have cX_g4_3 := X_g_3.out.cell (j := 4) rfl
  go_wp2_with fail
  refine Calls.mono (markEnds_none _) ?_
  rintro e w4 ⟨rfl, b4⟩
  have O4 := hid b4.size
  have B_4 := hid (below_via B_3.out b4)
  have X_w_4 := hid (X_w_3.out.on b4 X_w_3.out.lt)
  have X_g_4 := hid (X_g_3.out.on b4 X_g_3.out.lt)
  clear b4 B_3 X_w_3 X_g_3 cX_w0_3 cX_w1_3 cX_w2_3 cX_w3_3 cX_w4_3 cX_g0_3 cX_g1_3 cX_g2_3 cX_g3_3 cX_g4_3
  have cX_w0_4 := X_w_4.out.cell (j := 0) rfl
  have cX_w1_4 := X_w_4.out.cell (j := 1) rfl
  have cX_w2_4 := X_w_4.out.cell (j := 2) rfl
  have cX_w3_4 := X_w_4.out.cell (j := 3) rfl
  have cX_w4_4 := X_w_4.out.cell (j := 4) rfl
  have cX_g0_4 := X_g_4.out.cell (j := 0) rfl
  have cX_g1_4 := X_g_4.out.cell (j := 1) rfl
  have cX_g2_4 := X_g_4.out.cell (j := 2) rfl
  have cX_g3_4 := X_g_4.out.cell (j := 3) rfl
  have cX_g4_4 := X_g_4.out.cell (j := 4) rfl
  go_wp2_with fail
  refine Calls.mono (heldEnds_none _) ?_
  rintro e w5 ⟨rfl, b5⟩
  have O5 := hid b5.size
  have B_5 := hid (below_via B_4.out b5)
  have X_w_5 := hid (X_w_4.out.on b5 X_w_4.out.lt)
  have X_g_5 := hid (X_g_4.out.on b5 X_g_4.out.lt)
  clear b5 B_4 X_w_4 X_g_4 cX_w0_4 cX_w1_4 cX_w2_4 cX_w3_4 cX_w4_4 cX_g0_4 cX_g1_4 cX_g2_4 cX_g3_4 cX_g4_4
  have cX_w0_5 := X_w_5.out.cell (j := 0) rfl
  have cX_w1_5 := X_w_5.out.cell (j := 1) rfl
  have cX_w2_5 := X_w_5.out.cell (j := 2) rfl
  have cX_w3_5 := X_w_5.out.cell (j := 3) rfl
  have cX_w4_5 := X_w_5.out.cell (j := 4) rfl
  have cX_g0_5 := X_g_5.out.cell (j := 0) rfl
  have cX_g1_5 := X_g_5.out.cell (j := 1) rfl
  have cX_g2_5 := X_g_5.out.cell (j := 2) rfl
  have cX_g3_5 := X_g_5.out.cell (j := 3) rfl
  have cX_g4_5 := X_g_5.out.cell (j := 4) rfl
  go_wp2_with fail
  refine Calls.mono (CI.out _) ?_
  rintro e w6 ⟨rfl, b6⟩
  have O6 := hid b6.size
  have B_6 := hid (below_via B_5.out b6)
  have X_w_6 := hid (X_w_5.out.on b6 X_w_5.out.lt)
  have X_g_6 := hid (X_g_5.out.on b6 X_g_5.out.lt)
  clear b6 B_5 X_w_5 X_g_5 cX_w0_5 cX_w1_5 cX_w2_5 cX_w3_5 cX_w4_5 cX_g0_5 cX_g1_5 cX_g2_5 cX_g3_5 cX_g4_5
  have cX_w0_6 := X_w_6.out.cell (j := 0) rfl
  have cX_w1_6 := X_w_6.out.cell (j := 1) rfl
  have cX_w2_6 := X_w_6.out.cell (j := 2) rfl
  have cX_w3_6 := X_w_6.out.cell (j := 3) rfl
  have cX_w4_6 := X_w_6.out.cell (j := 4) rfl
  have cX_g0_6 := X_g_6.out.cell (j := 0) rfl
  have cX_g1_6 := X_g_6.out.cell (j := 1) rfl
  have cX_g2_6 := X_g_6.out.cell (j := 2) rfl
  have cX_g3_6 := X_g_6.out.cell (j := 3) rfl
  have cX_g4_6 := X_g_6.out.cell (j := 4) rfl
  have ba := below_more (Below.refl w6.heap.size w6) (.cells #[.slice none 0 0, .slice none 0 0, .slice none 0 0, .slice none 0 0, .int .i64 0] 33)
  have hx : BlockIs (w6.alloc (.cells #[.slice none 0 0, .slice none 0 0, .slice none 0 0, .slice none 0 0, .int .i64 0] 33)) w6.heap.size 33 [.slice none 0 0, .slice none 0 0, .slice none 0 0, .slice none 0 0, .int .i64 0] := heap_alloc_new w6 _
  have B_6a := hid (below_via B_6.out ba)
  have X_w_6a := hid (X_w_6.out.on ba X_w_6.out.lt)
  have X_g_6a := hid (X_g_6.out.on ba X_g_6.out.lt)
  have X_h_6a := hid hx
  have O6a := hid hx.lt
  clear ba hx B_6 X_w_6 X_g_6
  have cX_w0_6a := X_w_6a.out.cell (j := 0) rfl
  have cX_w1_6a := X_w_6a.out.cell (j := 1) rfl
  have cX_w2_6a := X_w_6a.out.cell (j := 2) rfl
  have cX_w3_6a := X_w_6a.out.cell (j := 3) rfl
  have cX_w4_6a := X_w_6a.out.cell (j := 4) rfl
  have cX_g0_6a := X_g_6a.out.cell (j := 0) rfl
  have cX_g1_6a := X_g_6a.out.cell (j := 1) rfl
  have cX_g2_6a := X_g_6a.out.cell (j := 2) rfl
  have cX_g3_6a := X_g_6a.out.cell (j := 3) rfl
  have cX_g4_6a := X_g_6a.out.cell (j := 4) rfl
  have cX_h0_6a := X_h_6a.out.cell (j := 0) rfl
  have cX_h1_6a := X_h_6a.out.cell (j := 1) rfl
  have cX_h2_6a := X_h_6a.out.cell (j := 2) rfl
  have cX_h3_6a := X_h_6a.out.cell (j := 3) rfl
  have cX_h4_6a := X_h_6a.out.cell (j := 4) rfl
  go_wp2_with fail
  refine Calls.mono (eqEnds_none _) ?_
  rintro e w7 ⟨rfl, b7⟩
  have O7 := hid b7.size
  have B_7 := hid (below_via B_6a.out b7)
  have X_w_7 := hid (X_w_6a.out.on b7 X_w_6a.out.lt)
  have X_g_7 := hid (X_g_6a.out.on b7 X_g_6a.out.lt)
  have X_h_7 := hid (X_h_6a.out.on b7 X_h_6a.out.lt)
  clear b7 B_6a X_w_6a X_g_6a X_h_6a cX_w0_6a cX_w1_6a cX_w2_6a cX_w3_6a cX_w4_6a cX_g0_6a cX_g1_6a cX_g2_6a cX_g3_6a cX_g4_6a cX_h0_6a cX_h1_6a cX_h2_6a cX_h3_6a cX_h4_6a cX_w0_6 cX_w1_6 cX_w2_6 cX_w3_6 cX_w4_6 cX_g0_6 cX_g1_6 cX_g2_6 cX_g3_6 cX_g4_6
  have cX_w0_7 := X_w_7.out.cell (j := 0) rfl
  have cX_w1_7 := X_w_7.out.cell (j := 1) rfl
  have cX_w2_7 := X_w_7.out.cell (j := 2) rfl
  have cX_w3_7 := X_w_7.out.cell (j := 3) rfl
  have cX_w4_7 := X_w_7.out.cell (j := 4) rfl
  have cX_g0_7 := X_g_7.out.cell (j := 0) rfl
  have cX_g1_7 := X_g_7.out.cell (j := 1) rfl
  have cX_g2_7 := X_g_7.out.cell (j := 2) rfl
  have cX_g3_7 := X_g_7.out.cell (j := 3) rfl
  have cX_g4_7 := X_g_7.out.cell (j := 4) rfl
  have cX_h0_7 := X_h_7.out.cell (j := 0) rfl
  have cX_h1_7 := X_h_7.out.cell (j := 1) rfl
  have cX_h2_7 := X_h_7.out.cell (j := 2) rfl
  have cX_h3_7 := X_h_7.out.cell (j := 3) rfl
  have cX_h4_7 := X_h_7.out.cell (j := 4) rfl
  go_wp2_with fail
  refine Calls.mono (heldEnds_none _) ?_
  rintro e w8 ⟨rfl, b8⟩
  have O8 := hid b8.size
  have B_8 := hid (below_via B_7.out b8)
  have X_w_8 := hid (X_w_7.out.on b8 X_w_7.out.lt)
  have X_g_8 := hid (X_g_7.out.on b8 X_g_7.out.lt)
  have X_h_8 := hid (X_h_7.out.on b8 X_h_7.out.lt)
  clear b8 B_7 X_w_7 X_g_7 X_h_7 cX_w0_7 cX_w1_7 cX_w2_7 cX_w3_7 cX_w4_7 cX_g0_7 cX_g1_7 cX_g2_7 cX_g3_7 cX_g4_7 cX_h0_7 cX_h1_7 cX_h2_7 cX_h3_7 cX_h4_7
  have cX_w0_8 := X_w_8.out.cell (j := 0) rfl
  have cX_w1_8 := X_w_8.out.cell (j := 1) rfl
  have cX_w2_8 := X_w_8.out.cell (j := 2) rfl
  have cX_w3_8 := X_w_8.out.cell (j := 3) rfl
  have cX_w4_8 := X_w_8.out.cell (j := 4) rfl
  have cX_g0_8 := X_g_8.out.cell (j := 0) rfl
  have cX_g1_8 := X_g_8.out.cell (j := 1) rfl
  have cX_g2_8 := X_g_8.out.cell (j := 2) rfl
  have cX_g3_8 := X_g_8.out.cell (j := 3) rfl
  have cX_g4_8 := X_g_8.out.cell (j := 4) rfl
  have cX_h0_8 := X_h_8.out.cell (j := 0) rfl
  have cX_h1_8 := X_h_8.out.cell (j := 1) rfl
  have cX_h2_8 := X_h_8.out.cell (j := 2) rfl
  have cX_h3_8 := X_h_8.out.cell (j := 3) rfl
  have cX_h4_8 := X_h_8.out.cell (j := 4) rfl
  go_wp2
  go_ret
  exact ⟨rfl, B_8.out⟩

set_option maxRecDepth 1000000 in
set_option maxHeartbeats 8000000 in
theorem core_yes (a b : Int) (x y : StrD) (hx : x.late = []) (hy : y.late = []) (w : World) (CS : Hid (∀ w, Calls Try.prog 8 #[.int .i64 a, .int .i64 b] w fun e w' => (∃ p q r, e = .returned (.tuple #[.agg #[.slice (some ⟨p, 0, none⟩) 2 2, .slice (some ⟨q, 0, none⟩) 2 2, .slice (some ⟨r, 0, none⟩) 2 2, .slice none 0 0, .int .i64 0], .bool true]) ∧ EndsHold w' w.heap.size w'.heap.size x y p q r) ∧ Below w.heap.size w w')) (CI : Hid (∀ w, Calls Try.prog 9 #[.int .i64 a, .int .i64 b] w fun e w' => (∃ p q r, e = .returned (.tuple #[.agg #[.slice (some ⟨p, 0, none⟩) 2 2, .slice (some ⟨q, 0, none⟩) 2 2, .slice (some ⟨r, 0, none⟩) 2 2, .slice none 0 0, .int .i64 0], .bool true]) ∧ EndsHold w' w.heap.size w'.heap.size x y p q r) ∧ Below w.heap.size w w')) :
    Calls Try.prog 4 #[.int .i64 a, .int .i64 b] w fun e w' => e = .returned (.bool true) ∧ Below w.heap.size w w' := by
  have B := hid (Below.refl w.heap.size w)
  have O0 := hid (Nat.le_refl w.heap.size)
  go_enter Try.func4, Try.ntmps4
  go_wp2_with fail
  refine Calls.mono (CS.out _) ?_
  rintro e w1 ⟨⟨p1, q1, r1, rfl, h1⟩, b1⟩
  have O1 := hid b1.size
  have E_w := hid h1
  obtain ⟨⟨pa1, pb1, _⟩, ⟨qa1, qb1, _⟩, ra1, rb1, _⟩ := h1
  have B_1 := hid (below_via B.out b1)
  clear b1 B
  have ba := below_more (Below.refl w1.heap.size w1) (.cells #[.slice (some ⟨p1, 0, none⟩) 2 2, .slice (some ⟨q1, 0, none⟩) 2 2, .slice (some ⟨r1, 0, none⟩) 2 2, .slice none 0 0, .int .i64 0] 33)
  have hx : BlockIs (w1.alloc (.cells #[.slice (some ⟨p1, 0, none⟩) 2 2, .slice (some ⟨q1, 0, none⟩) 2 2, .slice (some ⟨r1, 0, none⟩) 2 2, .slice none 0 0, .int .i64 0] 33)) w1.heap.size 33 [.slice (some ⟨p1, 0, none⟩) 2 2, .slice (some ⟨q1, 0, none⟩) 2 2, .slice (some ⟨r1, 0, none⟩) 2 2, .slice none 0 0, .int .i64 0] := heap_alloc_new w1 _
  have B_1a := hid (below_via B_1.out ba)
  have E_w_1a := hid (E_w.out.on ba)
  have X_w_1a := hid hx
  have O1a := hid hx.lt
  clear ba hx B_1 E_w
  have cX_w0_1a := X_w_1a.out.cell (j := 0) rfl
  have cX_w1_1a := X_w_1a.out.cell (j := 1) rfl
  have cX_w2_1a := X_w_1a.out.cell (j := 2) rfl
  have cX_w3_1a := X_w_1a.out.cell (j := 3) rfl
  have cX_w4_1a := X_w_1a.out.cell (j := 4) rfl
  go_wp2_with fail
  refine Calls.mono (CI.out _) ?_
  rintro e w2 ⟨⟨p2, q2, r2, rfl, h2⟩, b2⟩
  have O2 := hid b2.size
  have E_g := hid h2
  obtain ⟨⟨pa2, pb2, _⟩, ⟨qa2, qb2, _⟩, ra2, rb2, _⟩ := h2
  have B_2 := hid (below_via B_1a.out b2)
  have E_w_2 := hid (E_w_1a.out.on b2)
  have X_w_2 := hid (X_w_1a.out.on b2 X_w_1a.out.lt)
  clear b2 B_1a E_w_1a X_w_1a cX_w0_1a cX_w1_1a cX_w2_1a cX_w3_1a cX_w4_1a
  have cX_w0_2 := X_w_2.out.cell (j := 0) rfl
  have cX_w1_2 := X_w_2.out.cell (j := 1) rfl
  have cX_w2_2 := X_w_2.out.cell (j := 2) rfl
  have cX_w3_2 := X_w_2.out.cell (j := 3) rfl
  have cX_w4_2 := X_w_2.out.cell (j := 4) rfl
  have ba := below_more (Below.refl w2.heap.size w2) (.cells #[.slice (some ⟨p2, 0, none⟩) 2 2, .slice (some ⟨q2, 0, none⟩) 2 2, .slice (some ⟨r2, 0, none⟩) 2 2, .slice none 0 0, .int .i64 0] 33)
  have hx : BlockIs (w2.alloc (.cells #[.slice (some ⟨p2, 0, none⟩) 2 2, .slice (some ⟨q2, 0, none⟩) 2 2, .slice (some ⟨r2, 0, none⟩) 2 2, .slice none 0 0, .int .i64 0] 33)) w2.heap.size 33 [.slice (some ⟨p2, 0, none⟩) 2 2, .slice (some ⟨q2, 0, none⟩) 2 2, .slice (some ⟨r2, 0, none⟩) 2 2, .slice none 0 0, .int .i64 0] := heap_alloc_new w2 _
  have B_2a := hid (below_via B_2.out ba)
  have E_w_2a := hid (E_w_2.out.on ba)
  have X_w_2a := hid (X_w_2.out.on ba X_w_2.out.lt)
  have E_g_2a := hid (E_g.out.on ba)
  have X_g_2a := hid hx
  have O2a := hid hx.lt
  clear ba hx B_2 E_w_2 X_w_2 E_g
  have cX_w0_2a := X_w_2a.out.cell (j := 0) rfl
  have cX_w1_2a := X_w_2a.out.cell (j := 1) rfl
  have cX_w2_2a := X_w_2a.out.cell (j := 2) rfl
  have cX_w3_2a := X_w_2a.out.cell (j := 3) rfl
  have cX_w4_2a := X_w_2a.out.cell (j := 4) rfl
  have cX_g0_2a := X_g_2a.out.cell (j := 0) rfl
  have cX_g1_2a := X_g_2a.out.cell (j := 1) rfl
  have cX_g2_2a := X_g_2a.out.cell (j := 2) rfl
  have cX_g3_2a := X_g_2a.out.cell (j := 3) rfl
  have cX_g4_2a := X_g_2a.out.cell (j := 4) rfl
  go_wp2_with fail
  refine Calls.mono (eqEnds_two _ _ _ _ x y hx hy p2 q2 r2 p1 q1 r1 _ E_g_2a.out E_w_2a.out) ?_
  rintro e w3 ⟨rfl, b3⟩
  have O3 := hid b3.size
  have B_3 := hid (below_via B_2a.out b3)
  have E_w_3 := hid (E_w_2a.out.on b3)
  have X_w_3 := hid (X_w_2a.out.on b3 X_w_2a.out.lt)
  have E_g_3 := hid (E_g_2a.out.on b3)
  have X_g_3 := hid (X_g_2a.out.on b3 X_g_2a.out.lt)
  clear b3 B_2a E_w_2a X_w_2a E_g_2a X_g_2a cX_w0_2a cX_w1_2a cX_w2_2a cX_w3_2a cX_w4_2a cX_g0_2a cX_g1_2a cX_g2_2a cX_g3_2a cX_g4_2a cX_w0_2 cX_w1_2 cX_w2_2 cX_w3_2 cX_w4_2
  have cX_w0_3 := X_w_3.out.cell (j := 0) rfl
  have cX_w1_3 := X_w_3.out.cell (j := 1) rfl
  have cX_w2_3 := X_w_3.out.cell (j := 2) rfl
  have cX_w3_3 := X_w_3.out.cell (j := 3) rfl
  have cX_w4_3 := X_w_3.out.cell (j := 4) rfl
  have cX_g0_3 := X_g_3.out.cell (j := 0) rfl
  have cX_g1_3 := X_g_3.out.cell (j := 1) rfl
  have cX_g2_3 := X_g_3.out.cell (j := 2) rfl
  have cX_g3_3 := X_g_3.out.cell (j := 3) rfl
  have cX_g4_3 := X_g_3.out.cell (j := 4) rfl
  go_wp2_with fail
  refine Calls.mono (markEnds_two _ _ x y p2 q2 r2 _ E_g_3.out) ?_
  rintro e w4 ⟨rfl, hm, kp⟩
  have O4 := hid (kp.2 0 (Nat.zero_le _) (Nat.zero_le _) (Nat.zero_le _)).size
  have B_4 := hid (B_3.out.trans (kp.2 _ (by have := O0.out; have := O1.out; have := O1a.out; have := O2.out; have := O2a.out; have := O3.out; have := O4.out; omega) (by have := O0.out; have := O1.out; have := O1a.out; have := O2.out; have := O2a.out; have := O3.out; have := O4.out; omega) (by have := O0.out; have := O1.out; have := O1a.out; have := O2.out; have := O2a.out; have := O3.out; have := O4.out; omega)))
  have E_w_4 := hid (E_w_3.out.kept2 kp ⟨pa2, pb2⟩ ⟨ra2, rb2⟩ (by have := O0.out; have := O1.out; have := O1a.out; have := O2.out; have := O2a.out; have := O3.out; have := O4.out; omega))
  have X_w_4 := hid (kp.1 _ _ _ (by have := O0.out; have := O1.out; have := O1a.out; have := O2.out; have := O2a.out; have := O3.out; have := O4.out; omega) (by have := O0.out; have := O1.out; have := O1a.out; have := O2.out; have := O2a.out; have := O3.out; have := O4.out; omega) X_w_3.out)
  have X_g_4 := hid (kp.1 _ _ _ (by have := O0.out; have := O1.out; have := O1a.out; have := O2.out; have := O2a.out; have := O3.out; have := O4.out; omega) (by have := O0.out; have := O1.out; have := O1a.out; have := O2.out; have := O2a.out; have := O3.out; have := O4.out; omega) X_g_3.out)
  have M_4 := hid hm
  clear hm kp E_g_3 B_3 E_w_3 X_w_3 X_g_3 cX_w0_3 cX_w1_3 cX_w2_3 cX_w3_3 cX_w4_3 cX_g0_3 cX_g1_3 cX_g2_3 cX_g3_3 cX_g4_3
  have cX_w0_4 := X_w_4.out.cell (j := 0) rfl
  have cX_w1_4 := X_w_4.out.cell (j := 1) rfl
  have cX_w2_4 := X_w_4.out.cell (j := 2) rfl
  have cX_w3_4 := X_w_4.out.cell (j := 3) rfl
  have cX_w4_4 := X_w_4.out.cell (j := 4) rfl
  have cX_g0_4 := X_g_4.out.cell (j := 0) rfl
  have cX_g1_4 := X_g_4.out.cell (j := 1) rfl
  have cX_g2_4 := X_g_4.out.cell (j := 2) rfl
  have cX_g3_4 := X_g_4.out.cell (j := 3) rfl
  have cX_g4_4 := X_g_4.out.cell (j := 4) rfl
  go_wp2_with fail
  refine Calls.mono (heldEnds_two p2 q2 r2 _ M_4.out) ?_
  rintro e w5 ⟨rfl, b5⟩
  have O5 := hid b5.size
  have B_5 := hid (below_via B_4.out b5)
  have E_w_5 := hid (E_w_4.out.on b5)
  have X_w_5 := hid (X_w_4.out.on b5 X_w_4.out.lt)
  have X_g_5 := hid (X_g_4.out.on b5 X_g_4.out.lt)
  have M_5 := hid (M_4.out.on b5)
  clear b5 B_4 E_w_4 X_w_4 X_g_4 M_4 cX_w0_4 cX_w1_4 cX_w2_4 cX_w3_4 cX_w4_4 cX_g0_4 cX_g1_4 cX_g2_4 cX_g3_4 cX_g4_4
  have cX_w0_5 := X_w_5.out.cell (j := 0) rfl
  have cX_w1_5 := X_w_5.out.cell (j := 1) rfl
  have cX_w2_5 := X_w_5.out.cell (j := 2) rfl
  have cX_w3_5 := X_w_5.out.cell (j := 3) rfl
  have cX_w4_5 := X_w_5.out.cell (j := 4) rfl
  have cX_g0_5 := X_g_5.out.cell (j := 0) rfl
  have cX_g1_5 := X_g_5.out.cell (j := 1) rfl
  have cX_g2_5 := X_g_5.out.cell (j := 2) rfl
  have cX_g3_5 := X_g_5.out.cell (j := 3) rfl
  have cX_g4_5 := X_g_5.out.cell (j := 4) rfl
  go_wp2_with fail
  refine Calls.mono (CI.out _) ?_
  rintro e w6 ⟨⟨p6, q6, r6, rfl, h6⟩, b6⟩
  have O6 := hid b6.size
  have E_h := hid h6
  obtain ⟨⟨pa6, pb6, _⟩, ⟨qa6, qb6, _⟩, ra6, rb6, _⟩ := h6
  have B_6 := hid (below_via B_5.out b6)
  have E_w_6 := hid (E_w_5.out.on b6)
  have X_w_6 := hid (X_w_5.out.on b6 X_w_5.out.lt)
  have X_g_6 := hid (X_g_5.out.on b6 X_g_5.out.lt)
  have M_6 := hid (M_5.out.on b6)
  clear b6 B_5 E_w_5 X_w_5 X_g_5 M_5 cX_w0_5 cX_w1_5 cX_w2_5 cX_w3_5 cX_w4_5 cX_g0_5 cX_g1_5 cX_g2_5 cX_g3_5 cX_g4_5
  have cX_w0_6 := X_w_6.out.cell (j := 0) rfl
  have cX_w1_6 := X_w_6.out.cell (j := 1) rfl
  have cX_w2_6 := X_w_6.out.cell (j := 2) rfl
  have cX_w3_6 := X_w_6.out.cell (j := 3) rfl
  have cX_w4_6 := X_w_6.out.cell (j := 4) rfl
  have cX_g0_6 := X_g_6.out.cell (j := 0) rfl
  have cX_g1_6 := X_g_6.out.cell (j := 1) rfl
  have cX_g2_6 := X_g_6.out.cell (j := 2) rfl
  have cX_g3_6 := X_g_6.out.cell (j := 3) rfl
  have cX_g4_6 := X_g_6.out.cell (j := 4) rfl
  have ba := below_more (Below.refl w6.heap.size w6) (.cells #[.slice (some ⟨p6, 0, none⟩) 2 2, .slice (some ⟨q6, 0, none⟩) 2 2, .slice (some ⟨r6, 0, none⟩) 2 2, .slice none 0 0, .int .i64 0] 33)
  have hx : BlockIs (w6.alloc (.cells #[.slice (some ⟨p6, 0, none⟩) 2 2, .slice (some ⟨q6, 0, none⟩) 2 2, .slice (some ⟨r6, 0, none⟩) 2 2, .slice none 0 0, .int .i64 0] 33)) w6.heap.size 33 [.slice (some ⟨p6, 0, none⟩) 2 2, .slice (some ⟨q6, 0, none⟩) 2 2, .slice (some ⟨r6, 0, none⟩) 2 2, .slice none 0 0, .int .i64 0] := heap_alloc_new w6 _
  have B_6a := hid (below_via B_6.out ba)
  have E_w_6a := hid (E_w_6.out.on ba)
  have X_w_6a := hid (X_w_6.out.on ba X_w_6.out.lt)
  have X_g_6a := hid (X_g_6.out.on ba X_g_6.out.lt)
  have M_6a := hid (M_6.out.on ba)
  have E_h_6a := hid (E_h.out.on ba)
  have X_h_6a := hid hx
  have O6a := hid hx.lt
  clear ba hx B_6 E_w_6 X_w_6 X_g_6 M_6 E_h
  have cX_w0_6a := X_w_6a.out.cell (j := 0) rfl
  have cX_w1_6a := X_w_6a.out.cell (j := 1) rfl
  have cX_w2_6a := X_w_6a.out.cell (j := 2) rfl
  have cX_w3_6a := X_w_6a.out.cell (j := 3) rfl
  have cX_w4_6a := X_w_6a.out.cell (j := 4) rfl
  have cX_g0_6a := X_g_6a.out.cell (j := 0) rfl
  have cX_g1_6a := X_g_6a.out.cell (j := 1) rfl
  have cX_g2_6a := X_g_6a.out.cell (j := 2) rfl
  have cX_g3_6a := X_g_6a.out.cell (j := 3) rfl
  have cX_g4_6a := X_g_6a.out.cell (j := 4) rfl
  have cX_h0_6a := X_h_6a.out.cell (j := 0) rfl
  have cX_h1_6a := X_h_6a.out.cell (j := 1) rfl
  have cX_h2_6a := X_h_6a.out.cell (j := 2) rfl
  have cX_h3_6a := X_h_6a.out.cell (j := 3) rfl
  have cX_h4_6a := X_h_6a.out.cell (j := 4) rfl
  go_wp2_with fail
  refine Calls.mono (eqEnds_two _ _ _ _ x y hx hy p6 q6 r6 p1 q1 r1 _ E_h_6a.out E_w_6a.out) ?_
  rintro e w7 ⟨rfl, b7⟩
  have O7 := hid b7.size
  have B_7 := hid (below_via B_6a.out b7)
  have E_w_7 := hid (E_w_6a.out.on b7)
  have X_w_7 := hid (X_w_6a.out.on b7 X_w_6a.out.lt)
  have X_g_7 := hid (X_g_6a.out.on b7 X_g_6a.out.lt)
  have M_7 := hid (M_6a.out.on b7)
  have E_h_7 := hid (E_h_6a.out.on b7)
  have X_h_7 := hid (X_h_6a.out.on b7 X_h_6a.out.lt)
  clear b7 B_6a E_w_6a X_w_6a X_g_6a M_6a E_h_6a X_h_6a cX_w0_6a cX_w1_6a cX_w2_6a cX_w3_6a cX_w4_6a cX_g0_6a cX_g1_6a cX_g2_6a cX_g3_6a cX_g4_6a cX_h0_6a cX_h1_6a cX_h2_6a cX_h3_6a cX_h4_6a cX_w0_6 cX_w1_6 cX_w2_6 cX_w3_6 cX_w4_6 cX_g0_6 cX_g1_6 cX_g2_6 cX_g3_6 cX_g4_6
  have cX_w0_7 := X_w_7.out.cell (j := 0) rfl
  have cX_w1_7 := X_w_7.out.cell (j := 1) rfl
  have cX_w2_7 := X_w_7.out.cell (j := 2) rfl
  have cX_w3_7 := X_w_7.out.cell (j := 3) rfl
  have cX_w4_7 := X_w_7.out.cell (j := 4) rfl
  have cX_g0_7 := X_g_7.out.cell (j := 0) rfl
  have cX_g1_7 := X_g_7.out.cell (j := 1) rfl
  have cX_g2_7 := X_g_7.out.cell (j := 2) rfl
  have cX_g3_7 := X_g_7.out.cell (j := 3) rfl
  have cX_g4_7 := X_g_7.out.cell (j := 4) rfl
  have cX_h0_7 := X_h_7.out.cell (j := 0) rfl
  have cX_h1_7 := X_h_7.out.cell (j := 1) rfl
  have cX_h2_7 := X_h_7.out.cell (j := 2) rfl
  have cX_h3_7 := X_h_7.out.cell (j := 3) rfl
  have cX_h4_7 := X_h_7.out.cell (j := 4) rfl
  go_wp2_with fail
  refine Calls.mono (heldEnds_two p2 q2 r2 _ M_7.out) ?_
  rintro e w8 ⟨rfl, b8⟩
  have O8 := hid b8.size
  have B_8 := hid (below_via B_7.out b8)
  have E_w_8 := hid (E_w_7.out.on b8)
  have X_w_8 := hid (X_w_7.out.on b8 X_w_7.out.lt)
  have X_g_8 := hid (X_g_7.out.on b8 X_g_7.out.lt)
  have M_8 := hid (M_7.out.on b8)
  have E_h_8 := hid (E_h_7.out.on b8)
  have X_h_8 := hid (X_h_7.out.on b8 X_h_7.out.lt)
  clear b8 B_7 E_w_7 X_w_7 X_g_7 M_7 E_h_7 X_h_7 cX_w0_7 cX_w1_7 cX_w2_7 cX_w3_7 cX_w4_7 cX_g0_7 cX_g1_7 cX_g2_7 cX_g3_7 cX_g4_7 cX_h0_7 cX_h1_7 cX_h2_7 cX_h3_7 cX_h4_7
  have cX_w0_8 := X_w_8.out.cell (j := 0) rfl
  have cX_w1_8 := X_w_8.out.cell (j := 1) rfl
  have cX_w2_8 := X_w_8.out.cell (j := 2) rfl
  have cX_w3_8 := X_w_8.out.cell (j := 3) rfl
  have cX_w4_8 := X_w_8.out.cell (j := 4) rfl
  have cX_g0_8 := X_g_8.out.cell (j := 0) rfl
  have cX_g1_8 := X_g_8.out.cell (j := 1) rfl
  have cX_g2_8 := X_g_8.out.cell (j := 2) rfl
  have cX_g3_8 := X_g_8.out.cell (j := 3) rfl
  have cX_g4_8 := X_g_8.out.cell (j := 4) rfl
  have cX_h0_8 := X_h_8.out.cell (j := 0) rfl
  have cX_h1_8 := X_h_8.out.cell (j := 1) rfl
  have cX_h2_8 := X_h_8.out.cell (j := 2) rfl
  have cX_h3_8 := X_h_8.out.cell (j := 3) rfl
  have cX_h4_8 := X_h_8.out.cell (j := 4) rfl
  go_wp2
  go_ret
  exact ⟨rfl, B_8.out⟩

theorem walk (a : Int) (_h1 : (Lit.int .i64 a).wf = true) (b : Int) (_h2 : (Lit.int .i64 b).wf = true) (w : World) :
    Calls Try.prog 4 #[.int .i64 a, .int .i64 b] w fun e w' => e = .returned (.bool true) ∧ Below w.heap.size w w' := by
  have hx : (newD a true).late = [] := List.eq_nil_of_length_eq_zero (newD_none a true)
  have hy : (newD b false).late = [] := List.eq_nil_of_length_eq_zero (newD_none b false)
  cases hk : (within a 0 65535 && within b 0 65535) with
  | false =>
    refine core_no a b w (fun w => ?_) (fun w => ?_)
    · refine (specEndsNew_any a b w).mono ?_
      rintro e w' ⟨hb, h | h⟩
      · exact ⟨h.2, hb⟩
      · rw [hk] at h; cases h.1
    · refine (implEndsNew_any a b w).mono ?_
      rintro e w' ⟨hb, h | h⟩
      · exact ⟨h.2, hb⟩
      · rw [hk] at h; cases h.1
  | true =>
    refine core_yes a b _ _ hx hy w (fun w => ?_) (fun w => ?_)
    · refine (specEndsNew_any a b w).mono ?_
      rintro e w' ⟨hb, h | h⟩
      · rw [hk] at h; cases h.1
      · exact ⟨h.2, hb⟩
    · refine (implEndsNew_any a b w).mono ?_
      rintro e w' ⟨hb, h | h⟩
      · rw [hk] at h; cases h.1
      · exact ⟨h.2, hb⟩

theorem own : ownKnob Try.prog.godebug = none := by kernel_rfl
theorem laidOut : laidOutB Try.prog = true := by kernel_rfl
theorem rowed : varsRowed Try.prog Rows.fnExactEndsNewSpec.vars = true := by kernel_rfl
set_option maxRecDepth 1000000 in
theorem contract (H : Type) (enc : TypeId × Value → H) (W : World) (base : Nat) (args : Array Value) (ds gs : List (DataW H)) (before : List MemPlace)
    (hval : ∀ (j : Nat) t v, Try.f4.params[j]? = some t → args[j]? = some v → Value.okWide Try.prog W .any base t v)
    (hW : DataW.Whole enc Try.prog Try.f4.params.toList Rows.fnExactEndsNewSpec.vars false W args.toList ds gs before) (_hL : laidMetH Try.prog Rows.fnExactEndsNewRow.laid W) :
    Calls Try.prog 4 args W fun e W' => ∃ v, e = .returned v ∧ Rows.fnExactEndsNewSpec.post enc Try.prog Try.f4 false true false false W args v W' := by
  have hW' := hW
  obtain ⟨p, q, hA0, hV0, rfl, hfz, hnd⟩ := hW
  have hV : DataW.TrodVars enc Try.prog W (fun _ => true) Rows.fnExactEndsNewSpec.vars gs q := hV0
  have hA : DataW.TrodAll enc Try.prog W 0 (fun _ => true) true Try.f4.params.toList args.toList ds p := hA0
  rw [Try.params4] at hA hval
  obtain ⟨v0, vs0, d0, ds0, p0, q0, hargs0, rfl, rfl, h0, r0⟩ := trodAll_cons hA
  obtain ⟨v1, vs1, d1, ds1, p1, q1, hargs1, rfl, rfl, h1, r1⟩ := trodAll_cons r0
  subst hargs1
  obtain ⟨rfl, rfl, rfl⟩ := trodAll_nil r1
  obtain rfl : args = #[v0, v1] := by cases args; simp_all
  obtain ⟨a0, rfl, rfl, rfl, w0⟩ := open_int Try.underlying3 (hval 0 3 v0 rfl rfl) h0
  obtain ⟨a1, rfl, rfl, rfl, w1⟩ := open_int Try.underlying3 (hval 1 3 v1 rfl rfl) h1
  clear hA0 hV0
  obtain ⟨rfl, rfl⟩ := trodVars_none hV
  refine (walk a0 w0 a1 w1 W ).mono fun e W' ⟨he, bel⟩ => ?_
  subst he
  exact ⟨_, rfl, _, _, _, [], _, [], hW', trodAll_mk1 (shut_bool Try.underlying4 _), trodAll_cons_mk (shut_int Try.underlying3 w0) (trodAll_cons_mk (shut_int Try.underlying3 w1) (trodAll_mk0)), rfl, bel.frame _, fun h => by cases h⟩

def put (cs : Array Value) : Obj → Obj
  | .cells _ t frozen => .cells cs t frozen
  | o => o

/-- a world for the witness: the tables hold what their initialisers lay -/
def laidWorld (w : World) : World := { w with heap := w.heap }
theorem laid_met (os : Os) : laidMet Try.prog Rows.fnExactEndsNewRow.laid ((laidWorld (World.holding Try.prog os ⟨#[], #[], []⟩)).forCall (fun _ _ => 0) ⟨#[], #[.int .i64 0, .int .i64 0], []⟩).memory :=
  laidMet_of_run' 8 (by kernel_rfl) (by kernel_rfl)
theorem reads (os : Os) {H : Type} (enc : TypeId × Value → H) : ∃ places, DataW.whole enc Try.prog ((laidWorld (World.holding Try.prog os ⟨#[], #[], []⟩)).forCall (fun _ _ => 0) ⟨#[], #[.int .i64 0, .int .i64 0], []⟩).memory Try.f4.params.toList Rows.fnExactEndsNewSpec.vars false #[Value.int .i64 0, .int .i64 0].toList 8 = some ([.lit (.int .i64 0), .lit (.int .i64 0)], [], places) :=
  ⟨[], by kernel_rfl⟩

set_option maxRecDepth 1000000 in
theorem lifted (os : Os) (started : os.Started) (H : Type) (enc : TypeId × Value → H) (F : Stop.Interp) :
    ReturnsInHanded {} Try.checked os 4 .any ((OpenSpec.ofChange Rows.fnExactEndsNewSpec).preRow enc Try.prog Try.f4 Rows.fnExactEndsNewRow.domain false Rows.fnExactEndsNewRow.laid) (((OpenSpec.ofChange Rows.fnExactEndsNewSpec).at F).post enc Try.prog Try.f4 false true false false) := by
  obtain ⟨places, hx⟩ := reads os enc
  refine returnsInHanded_of_row (C := Try.checked) (s := OpenSpec.ofChange Rows.fnExactEndsNewSpec) own started (by kernel_rfl) Try.func4
    (witness_row_at (enc := enc) (C := Try.checked) false (laidWorld (World.holding Try.prog os ⟨#[], #[], []⟩)) #[.int .i64 0, .int .i64 0] rfl (by kernel_rfl) (by kernel_rfl) (by kernel_rfl)
      (OpenSpec.preRow_of_cond 8 hx (by kernel_rfl) (fun k hk => by cases hk) (by kernel_rfl) (laid_met os))) ?_
  intro W base args ds gs before hval hW _ _ _ hL _ _
  exact contract H enc W base args ds gs before hval hW hL

theorem said : Rows.FnExactEndsNewSaid :=
  OpenClaim.holds_of_cond 4 Try.f4 rfl rfl rfl rfl rfl rfl rfl ⟨rfl, rfl, rfl, rfl, rfl⟩ rfl rfl rfl rfl rfl (by kernel_rfl) Try.func4 (by kernel_rfl)
    (of_decide_eq_true (by kernel_rfl)) (by unfold Func.isWrapper; first | (rw [if_pos (by decide +kernel)]; kernel_rfl) | (rw [if_neg (by decide +kernel)]; exact ⟨rfl, rfl⟩))
    (fun os started H enc _ F => by rw [OpenClaim.pre_eq_preRow]; exact lifted os started H enc F)

end Go.Proofs.Ythkkhmmcgjcedaa.fnExactEndsNew
