/-
  For every argument, laws.FnExactPostRing returns true: impl.PostRing and spec.PostRing answer alike, no argument is written, the answer owns its memory; nothing that was in memory is written.
-/
import Derived.Test.YtjcphahbplmmdaaRows
import Derived.Test.YtjcphahbplmmdaaOpenRing
import Derived.Test.YtjcphahbplmmdaaSzRing
import Derived.Test.YtjcphahbplmmdaaToRing
import Derived.Test.YtjcphahbplmmdaaEqRing
import Derived.Test.YtjcphahbplmmdaaMarkRing
import Derived.Test.YtjcphahbplmmdaaPostS
import Derived.Test.YtjcphahbplmmdaaPostI
import Derived.Deep.RegionWith
import Derived.WalkSmall
import Derived.WalkKit
import Derived.ProofKit
import Derived.OpenShut
import Derived.OpenVars
import Derived.Deep.DeepHandedRow
import Derived.Lib.LaidTab
import Derived.Stop.LaidErr
namespace Go.Proofs.Ytjcphahbplmmdaa.fnExactPostRing
open Go.ChangeShapes Go.WideShapes Go.ChangeAt Go.ChangeMaps Go.RowKit

set_option maxRecDepth 1000000 in
set_option maxHeartbeats 8000000 in
theorem walk (s t : Int) (hs : -9223372036854775808 ≤ s ∧ s ≤ 9223372036854775807) (ht : -9223372036854775808 ≤ t ∧ t ≤ 9223372036854775807) (ao : Option Addr) (l : List SlotD) (cap : Nat) (hl : l.length ≤ maxLen) (hf : SlotsFit l) (x : ByteArray) (hxm : x.size ≤ maxLen) (w : World) (ha : SlotsAt w ao l) :
    Calls Try.prog 7 #[.agg #[.slice ao l.length cap, .int .i64 s, .int .i64 t], .string x] w fun e w' => e = .returned (.bool true) ∧ Below w.heap.size w w' := by
  have HA := hid ha
  have X_p := hid (show BlockIs (w.alloc (.cells #[.slice ao l.length cap, .int .i64 s, .int .i64 t] 43)) w.heap.size 43 [.slice ao l.length cap, .int .i64 s, .int .i64 t] from heap_alloc_new w _)
  have B := hid (below_more (Below.refl w.heap.size w) (.cells #[.slice ao l.length cap, .int .i64 s, .int .i64 t] 43))
  have O0 := hid X_p.out.lt
  clear ha
  unfold maxLen at hxm
  by_cases hxg : 1048576 < x.size
  · have hxl2 : (1048576 : Int) < (x.size : Int) := by omega
    go_enter Try.func7, Try.ntmps7
    go_wp2
    go_ret
    exact ⟨rfl, B.out⟩
  have hxl : x.size ≤ 1048576 := by omega
  go_enter Try.func7, Try.ntmps7
  go_wp2_with fail
  refine Calls.mono (szRing_any s t ao l cap 1048576 (by omega) (by omega) (by unfold maxLen at hl; omega) hf _ (HA.out.on B.out)) ?_
  rintro e w1 ⟨hor, b1⟩
  have O1 := hid b1.size
  have X_p_1 := hid (X_p.out.on b1 X_p.out.lt)
  have B_1 := hid (below_via B.out b1)
  clear b1 X_p B
  have cX_p0_1 := X_p_1.out.cell (j := 0) rfl
  have cX_p1_1 := X_p_1.out.cell (j := 1) rfl
  have cX_p2_1 := X_p_1.out.cell (j := 2) rfl
  rcases hor with ⟨hneg, rfl⟩ | ⟨hnn, rfl⟩
  · go_wp2
    go_ret
    exact ⟨rfl, B_1.out⟩
  have hl2 := (slotsSmall hnn).1
  have HSM := hid (slotsSmall hnn).2
  clear hf hl
  obtain ⟨HH, hHH⟩ : ∃ y, postH l s t x = y := ⟨_, rfl⟩
  obtain ⟨OK, hOK⟩ : ∃ y, postOk l s t x = y := ⟨_, rfl⟩
  obtain ⟨A, hF⟩ : ∃ A, postL l s t x = A := ⟨_, rfl⟩
  have hA2 : A.length ≤ 1048576 := by rw [← hF]; exact by rw [postL_length]; exact hl2
  go_wp2_with fail
  refine Calls.mono (toRing_o s t ao l cap hl2 _ (HA.out.on B_1.out)) ?_
  rintro e w2 ⟨v2, c2, rfl, hc2, h2, b2⟩
  have O2 := hid b2.size
  have Y2 := hid h2
  clear h2 hc2
  have X_p_2 := hid (X_p_1.out.on b2 X_p_1.out.lt)
  have B_2 := hid (below_via B_1.out b2)
  clear b2 X_p_1 B_1 cX_p0_1 cX_p1_1 cX_p2_1
  have cX_p0_2 := X_p_2.out.cell (j := 0) rfl
  have cX_p1_2 := X_p_2.out.cell (j := 1) rfl
  have cX_p2_2 := X_p_2.out.cell (j := 2) rfl
  have CQ := hid (specPost_any s t hs ht _ l c2 hl2 HSM.out x hxl _ Y2.out.slots)
  unfold PostRDid at CQ
  rw [hF, hHH, hOK] at CQ
  go_wp2_with fail
  refine Calls.mono (CQ.out) ?_
  rintro e w3 ⟨v3, c3, rfl, hvc3, h3, b3⟩
  have O3 := hid b3.size
  have R_w := hid h3
  clear h3 hvc3 CQ
  have X_p_3 := hid (X_p_2.out.on b3 X_p_2.out.lt)
  have B_3 := hid (below_via B_2.out b3)
  have Y2_3 := hid (Y2.out.on b3)
  clear b3 X_p_2 B_2 Y2 cX_p0_2 cX_p1_2 cX_p2_2
  have cX_p0_3 := X_p_3.out.cell (j := 0) rfl
  have cX_p1_3 := X_p_3.out.cell (j := 1) rfl
  have cX_p2_3 := X_p_3.out.cell (j := 2) rfl
  clear Y2_3
  have ba := below_more (Below.refl w3.heap.size w3) (.cells #[.slice v3 A.length c3, .int .i64 HH, .int .i64 t] 26)
  have hx : BlockIs (w3.alloc (.cells #[.slice v3 A.length c3, .int .i64 HH, .int .i64 t] 26)) w3.heap.size 26 [.slice v3 A.length c3, .int .i64 HH, .int .i64 t] := heap_alloc_new w3 _
  have X_p_3a := hid (X_p_3.out.on ba X_p_3.out.lt)
  have B_3a := hid (below_via B_3.out ba)
  have R_w_3a := hid (R_w.out.on ba)
  have X_w_3a := hid hx
  have O3a := hid hx.lt
  clear ba hx X_p_3 B_3 R_w
  have cX_p0_3a := X_p_3a.out.cell (j := 0) rfl
  have cX_p1_3a := X_p_3a.out.cell (j := 1) rfl
  have cX_p2_3a := X_p_3a.out.cell (j := 2) rfl
  have cX_w0_3a := X_w_3a.out.cell (j := 0) rfl
  have cX_w1_3a := X_w_3a.out.cell (j := 1) rfl
  have cX_w2_3a := X_w_3a.out.cell (j := 2) rfl
  go_wp2_with fail
  refine Calls.mono (toRing_o s t ao l cap hl2 _ (HA.out.on B_3a.out)) ?_
  rintro e w4 ⟨v4, c4, rfl, hc4, h4, b4⟩
  have O4 := hid b4.size
  have Y4 := hid h4
  clear h4 hc4
  have X_p_4 := hid (X_p_3a.out.on b4 X_p_3a.out.lt)
  have B_4 := hid (below_via B_3a.out b4)
  have R_w_4 := hid (R_w_3a.out.on b4)
  have X_w_4 := hid (X_w_3a.out.on b4 X_w_3a.out.lt)
  clear b4 X_p_3a B_3a R_w_3a X_w_3a cX_p0_3a cX_p1_3a cX_p2_3a cX_w0_3a cX_w1_3a cX_w2_3a cX_p0_3 cX_p1_3 cX_p2_3
  have cX_p0_4 := X_p_4.out.cell (j := 0) rfl
  have cX_p1_4 := X_p_4.out.cell (j := 1) rfl
  have cX_p2_4 := X_p_4.out.cell (j := 2) rfl
  have cX_w0_4 := X_w_4.out.cell (j := 0) rfl
  have cX_w1_4 := X_w_4.out.cell (j := 1) rfl
  have cX_w2_4 := X_w_4.out.cell (j := 2) rfl
  have ba := below_more (Below.refl w4.heap.size w4) (.cells #[.slice v4 l.length c4, .int .i64 s, .int .i64 t] 26)
  have hx : BlockIs (w4.alloc (.cells #[.slice v4 l.length c4, .int .i64 s, .int .i64 t] 26)) w4.heap.size 26 [.slice v4 l.length c4, .int .i64 s, .int .i64 t] := heap_alloc_new w4 _
  have X_p_4a := hid (X_p_4.out.on ba X_p_4.out.lt)
  have B_4a := hid (below_via B_4.out ba)
  have R_w_4a := hid (R_w_4.out.on ba)
  have X_w_4a := hid (X_w_4.out.on ba X_w_4.out.lt)
  have Y4_4a := hid (Y4.out.on ba)
  have X_x_4a := hid hx
  have O4a := hid hx.lt
  clear ba hx X_p_4 B_4 R_w_4 X_w_4 Y4
  have cX_p0_4a := X_p_4a.out.cell (j := 0) rfl
  have cX_p1_4a := X_p_4a.out.cell (j := 1) rfl
  have cX_p2_4a := X_p_4a.out.cell (j := 2) rfl
  have cX_w0_4a := X_w_4a.out.cell (j := 0) rfl
  have cX_w1_4a := X_w_4a.out.cell (j := 1) rfl
  have cX_w2_4a := X_w_4a.out.cell (j := 2) rfl
  have cX_x0_4a := X_x_4a.out.cell (j := 0) rfl
  have cX_x1_4a := X_x_4a.out.cell (j := 1) rfl
  have cX_x2_4a := X_x_4a.out.cell (j := 2) rfl
  have CQ := hid (implPost_any s t _ l c4 hl2 HSM.out x hxl _ Y4_4a.out.slots)
  unfold PostRDid at CQ
  rw [hF, hHH, hOK] at CQ
  go_wp2_with fail
  refine Calls.mono (CQ.out) ?_
  rintro e w5 ⟨v5, c5, rfl, hvc5, h5, b5⟩
  have O5 := hid b5.size
  have R_g := hid h5
  clear h5 hvc5 CQ
  have X_p_5 := hid (X_p_4a.out.on b5 X_p_4a.out.lt)
  have B_5 := hid (below_via B_4a.out b5)
  have R_w_5 := hid (R_w_4a.out.on b5)
  have X_w_5 := hid (X_w_4a.out.on b5 X_w_4a.out.lt)
  have Y4_5 := hid (Y4_4a.out.on b5)
  have X_x_5 := hid (X_x_4a.out.on b5 X_x_4a.out.lt)
  clear b5 X_p_4a B_4a R_w_4a X_w_4a Y4_4a X_x_4a cX_p0_4a cX_p1_4a cX_p2_4a cX_w0_4a cX_w1_4a cX_w2_4a cX_x0_4a cX_x1_4a cX_x2_4a cX_p0_4 cX_p1_4 cX_p2_4 cX_w0_4 cX_w1_4 cX_w2_4
  have cX_p0_5 := X_p_5.out.cell (j := 0) rfl
  have cX_p1_5 := X_p_5.out.cell (j := 1) rfl
  have cX_p2_5 := X_p_5.out.cell (j := 2) rfl
  have cX_w0_5 := X_w_5.out.cell (j := 0) rfl
  have cX_w1_5 := X_w_5.out.cell (j := 1) rfl
  have cX_w2_5 := X_w_5.out.cell (j := 2) rfl
  have cX_x0_5 := X_x_5.out.cell (j := 0) rfl
  have cX_x1_5 := X_x_5.out.cell (j := 1) rfl
  have cX_x2_5 := X_x_5.out.cell (j := 2) rfl
  have ba := below_more (Below.refl w5.heap.size w5) (.cells #[.slice v5 A.length c5, .int .i64 HH, .int .i64 t] 26)
  have hx : BlockIs (w5.alloc (.cells #[.slice v5 A.length c5, .int .i64 HH, .int .i64 t] 26)) w5.heap.size 26 [.slice v5 A.length c5, .int .i64 HH, .int .i64 t] := heap_alloc_new w5 _
  have X_p_5a := hid (X_p_5.out.on ba X_p_5.out.lt)
  have B_5a := hid (below_via B_5.out ba)
  have R_w_5a := hid (R_w_5.out.on ba)
  have X_w_5a := hid (X_w_5.out.on ba X_w_5.out.lt)
  have Y4_5a := hid (Y4_5.out.on ba)
  have X_x_5a := hid (X_x_5.out.on ba X_x_5.out.lt)
  have R_g_5a := hid (R_g.out.on ba)
  have X_g_5a := hid hx
  have O5a := hid hx.lt
  clear ba hx X_p_5 B_5 R_w_5 X_w_5 Y4_5 X_x_5 R_g
  have cX_p0_5a := X_p_5a.out.cell (j := 0) rfl
  have cX_p1_5a := X_p_5a.out.cell (j := 1) rfl
  have cX_p2_5a := X_p_5a.out.cell (j := 2) rfl
  have cX_w0_5a := X_w_5a.out.cell (j := 0) rfl
  have cX_w1_5a := X_w_5a.out.cell (j := 1) rfl
  have cX_w2_5a := X_w_5a.out.cell (j := 2) rfl
  have cX_x0_5a := X_x_5a.out.cell (j := 0) rfl
  have cX_x1_5a := X_x_5a.out.cell (j := 1) rfl
  have cX_x2_5a := X_x_5a.out.cell (j := 2) rfl
  have cX_g0_5a := X_g_5a.out.cell (j := 0) rfl
  have cX_g1_5a := X_g_5a.out.cell (j := 1) rfl
  have cX_g2_5a := X_g_5a.out.cell (j := 2) rfl
  go_wp2_with fail
  refine Calls.mono (eqRing_same HH t v5 v3 A c5 c3 (by omega) _ R_g_5a.out.slots R_w_5a.out.slots) ?_
  rintro e w6 ⟨rfl, b6⟩
  have O6 := hid b6.size
  have X_p_6 := hid (X_p_5a.out.on b6 X_p_5a.out.lt)
  have B_6 := hid (below_via B_5a.out b6)
  have R_w_6 := hid (R_w_5a.out.on b6)
  have X_w_6 := hid (X_w_5a.out.on b6 X_w_5a.out.lt)
  have Y4_6 := hid (Y4_5a.out.on b6)
  have X_x_6 := hid (X_x_5a.out.on b6 X_x_5a.out.lt)
  have R_g_6 := hid (R_g_5a.out.on b6)
  have X_g_6 := hid (X_g_5a.out.on b6 X_g_5a.out.lt)
  clear b6 X_p_5a B_5a R_w_5a X_w_5a Y4_5a X_x_5a R_g_5a X_g_5a cX_p0_5a cX_p1_5a cX_p2_5a cX_w0_5a cX_w1_5a cX_w2_5a cX_x0_5a cX_x1_5a cX_x2_5a cX_g0_5a cX_g1_5a cX_g2_5a cX_p0_5 cX_p1_5 cX_p2_5 cX_w0_5 cX_w1_5 cX_w2_5 cX_x0_5 cX_x1_5 cX_x2_5
  have cX_p0_6 := X_p_6.out.cell (j := 0) rfl
  have cX_p1_6 := X_p_6.out.cell (j := 1) rfl
  have cX_p2_6 := X_p_6.out.cell (j := 2) rfl
  have cX_w0_6 := X_w_6.out.cell (j := 0) rfl
  have cX_w1_6 := X_w_6.out.cell (j := 1) rfl
  have cX_w2_6 := X_w_6.out.cell (j := 2) rfl
  have cX_x0_6 := X_x_6.out.cell (j := 0) rfl
  have cX_x1_6 := X_x_6.out.cell (j := 1) rfl
  have cX_x2_6 := X_x_6.out.cell (j := 2) rfl
  have cX_g0_6 := X_g_6.out.cell (j := 0) rfl
  have cX_g1_6 := X_g_6.out.cell (j := 1) rfl
  have cX_g2_6 := X_g_6.out.cell (j := 2) rfl
  have CT : Hid (Calls Try.prog 27 #[.agg #[.slice ao l.length cap, .int .i64 s, .int .i64 t]] w6.drew fun e w7 => ∃ v7 c7, e = .returned (.agg #[.slice v7 l.length c7, .int .i64 s, .int .i64 t]) ∧ (w7.cell? ⟨w4.heap.size, 0, none⟩ = some (.slice v4 l.length c4) ∧ w7.cell? ⟨w4.heap.size, 1, none⟩ = some (.int .i64 s) ∧ w7.cell? ⟨w4.heap.size, 2, none⟩ = some (.int .i64 t)) ∧ Hid (Below w6.heap.size w6 w7 ∧ SlotsAt w7 v7 l)) := by
    have hd : Below w6.heap.size w6 w6.drew := below_drewN (Below.refl _ _) 1
    refine Calls.mono (toRing_o s t ao l cap hl2 w6.drew (HA.out.on (below_via B_6.out hd))) ?_
    rintro e w7 ⟨v7, c7, rfl, _, h7, b7⟩
    have h67 := below_via hd b7
    have k67 := X_x_6.out.on h67 X_x_6.out.lt
    exact ⟨v7, c7, rfl, ⟨k67.cell (j := 0) rfl, k67.cell (j := 1) rfl, k67.cell (j := 2) rfl⟩, h67, h7.slots⟩
  go_wp2
  go_region_with (first | (go_at_call 27; refine Calls.mono CT.out ?_; rintro e w7 ⟨v7, c7, rfl, ⟨y0, y1, y2⟩, H7⟩) | (go_at_call 23; refine (eqRing_same s t _ _ l _ _ (by omega) _ ((Y4_6.out.on H7.out.1).slots) H7.out.2).mono ?_; rintro e w8 ⟨rfl, b8⟩))
  all_goals
    have bb := below_via H7.out.1 b8
    have O8 := hid bb.size
    have X_p_8 := hid (X_p_6.out.on bb X_p_6.out.lt)
    have B_8 := hid (below_via B_6.out bb)
    have R_w_8 := hid (R_w_6.out.on bb)
    have X_w_8 := hid (X_w_6.out.on bb X_w_6.out.lt)
    have Y4_8 := hid (Y4_6.out.on bb)
    have X_x_8 := hid (X_x_6.out.on bb X_x_6.out.lt)
    have R_g_8 := hid (R_g_6.out.on bb)
    have X_g_8 := hid (X_g_6.out.on bb X_g_6.out.lt)
    clear bb b8 H7 CT y0 y1 y2 X_p_6 B_6 R_w_6 X_w_6 Y4_6 X_x_6 R_g_6 X_g_6 cX_p0_6 cX_p1_6 cX_p2_6 cX_w0_6 cX_w1_6 cX_w2_6 cX_x0_6 cX_x1_6 cX_x2_6 cX_g0_6 cX_g1_6 cX_g2_6
    have cX_p0_8 := X_p_8.out.cell (j := 0) rfl
    have cX_p1_8 := X_p_8.out.cell (j := 1) rfl
    have cX_p2_8 := X_p_8.out.cell (j := 2) rfl
    have cX_w0_8 := X_w_8.out.cell (j := 0) rfl
    have cX_w1_8 := X_w_8.out.cell (j := 1) rfl
    have cX_w2_8 := X_w_8.out.cell (j := 2) rfl
    have cX_x0_8 := X_x_8.out.cell (j := 0) rfl
    have cX_x1_8 := X_x_8.out.cell (j := 1) rfl
    have cX_x2_8 := X_x_8.out.cell (j := 2) rfl
    have cX_g0_8 := X_g_8.out.cell (j := 0) rfl
    have cX_g1_8 := X_g_8.out.cell (j := 1) rfl
    have cX_g2_8 := X_g_8.out.cell (j := 2) rfl
    go_wp2_with fail
    refine (markRing_o s t 1 v4 c4 l ((w3.alloc (.cells #[.slice v3 A.length c3, .int .i64 HH, .int .i64 t] 26)).heap.size) (w4.heap.size) (by omega) (by omega) _ (by have := O0.out; have := O1.out; have := O2.out; have := O3.out; have := O3a.out; have := O4.out; have := O4a.out; have := O5.out; have := O5a.out; have := O6.out; have := O8.out; omega) Y4_8.out).mono ?_
    rintro e w9 ⟨rfl, hm9, kp, b9⟩
    have O9 := hid b9.size
    have X_p_9 := hid (X_p_8.out.kept kp (by have := O0.out; have := O1.out; have := O2.out; have := O3.out; have := O3a.out; have := O4.out; have := O4a.out; have := O5.out; have := O5a.out; have := O6.out; have := O8.out; have := O9.out; omega))
    have B_9 := hid (B_8.out.trans (b9.mono (by have := O0.out; have := O1.out; have := O2.out; have := O3.out; have := O3a.out; have := O4.out; have := O4a.out; have := O5.out; have := O5a.out; have := O6.out; have := O8.out; have := O9.out; omega)))
    have R_w_9 := hid (R_w_8.out.kept kp (by have := O0.out; have := O1.out; have := O2.out; have := O3.out; have := O3a.out; have := O4.out; have := O4a.out; have := O5.out; have := O5a.out; have := O6.out; have := O8.out; have := O9.out; omega))
    have X_w_9 := hid (X_w_8.out.kept kp (by have := O0.out; have := O1.out; have := O2.out; have := O3.out; have := O3a.out; have := O4.out; have := O4a.out; have := O5.out; have := O5a.out; have := O6.out; have := O8.out; have := O9.out; omega))
    have X_x_9 := hid (X_x_8.out.kept kp (by have := O0.out; have := O1.out; have := O2.out; have := O3.out; have := O3a.out; have := O4.out; have := O4a.out; have := O5.out; have := O5a.out; have := O6.out; have := O8.out; have := O9.out; omega))
    have R_g_9 := hid (R_g_8.out.kept kp (by have := O0.out; have := O1.out; have := O2.out; have := O3.out; have := O3a.out; have := O4.out; have := O4a.out; have := O5.out; have := O5a.out; have := O6.out; have := O8.out; have := O9.out; omega))
    have X_g_9 := hid (X_g_8.out.kept kp (by have := O0.out; have := O1.out; have := O2.out; have := O3.out; have := O3a.out; have := O4.out; have := O4a.out; have := O5.out; have := O5a.out; have := O6.out; have := O8.out; have := O9.out; omega))
    clear kp b9 Y4_8 X_p_8 B_8 R_w_8 X_w_8 X_x_8 R_g_8 X_g_8 cX_p0_8 cX_p1_8 cX_p2_8 cX_w0_8 cX_w1_8 cX_w2_8 cX_x0_8 cX_x1_8 cX_x2_8 cX_g0_8 cX_g1_8 cX_g2_8
    have cX_p0_9 := X_p_9.out.cell (j := 0) rfl
    have cX_p1_9 := X_p_9.out.cell (j := 1) rfl
    have cX_p2_9 := X_p_9.out.cell (j := 2) rfl
    have cX_w0_9 := X_w_9.out.cell (j := 0) rfl
    have cX_w1_9 := X_w_9.out.cell (j := 1) rfl
    have cX_w2_9 := X_w_9.out.cell (j := 2) rfl
    have cX_x0_9 := X_x_9.out.cell (j := 0) rfl
    have cX_x1_9 := X_x_9.out.cell (j := 1) rfl
    have cX_x2_9 := X_x_9.out.cell (j := 2) rfl
    have cX_g0_9 := X_g_9.out.cell (j := 0) rfl
    have cX_g1_9 := X_g_9.out.cell (j := 1) rfl
    have cX_g2_9 := X_g_9.out.cell (j := 2) rfl
    clear hm9
    go_wp2_with fail
    refine Calls.mono (eqRing_same HH t v5 v3 A c5 c3 (by omega) _ R_g_9.out.slots R_w_9.out.slots) ?_
    rintro e w10 ⟨rfl, b10⟩
    have O10 := hid b10.size
    have X_p_10 := hid (X_p_9.out.on b10 X_p_9.out.lt)
    have B_10 := hid (below_via B_9.out b10)
    have R_w_10 := hid (R_w_9.out.on b10)
    have X_w_10 := hid (X_w_9.out.on b10 X_w_9.out.lt)
    have X_x_10 := hid (X_x_9.out.on b10 X_x_9.out.lt)
    have R_g_10 := hid (R_g_9.out.on b10)
    have X_g_10 := hid (X_g_9.out.on b10 X_g_9.out.lt)
    clear b10 X_p_9 B_9 R_w_9 X_w_9 X_x_9 R_g_9 X_g_9 cX_p0_9 cX_p1_9 cX_p2_9 cX_w0_9 cX_w1_9 cX_w2_9 cX_x0_9 cX_x1_9 cX_x2_9 cX_g0_9 cX_g1_9 cX_g2_9
    have cX_p0_10 := X_p_10.out.cell (j := 0) rfl
    have cX_p1_10 := X_p_10.out.cell (j := 1) rfl
    have cX_p2_10 := X_p_10.out.cell (j := 2) rfl
    have cX_w0_10 := X_w_10.out.cell (j := 0) rfl
    have cX_w1_10 := X_w_10.out.cell (j := 1) rfl
    have cX_w2_10 := X_w_10.out.cell (j := 2) rfl
    have cX_x0_10 := X_x_10.out.cell (j := 0) rfl
    have cX_x1_10 := X_x_10.out.cell (j := 1) rfl
    have cX_x2_10 := X_x_10.out.cell (j := 2) rfl
    have cX_g0_10 := X_g_10.out.cell (j := 0) rfl
    have cX_g1_10 := X_g_10.out.cell (j := 1) rfl
    have cX_g2_10 := X_g_10.out.cell (j := 2) rfl
    go_wp2_with fail
    refine (markRing_o HH t 1 v5 c5 A ((w4.alloc (.cells #[.slice v4 l.length c4, .int .i64 s, .int .i64 t] 26)).heap.size) (w5.heap.size) (by omega) (by omega) _ (by have := O0.out; have := O1.out; have := O2.out; have := O3.out; have := O3a.out; have := O4.out; have := O4a.out; have := O5.out; have := O5a.out; have := O6.out; have := O8.out; have := O9.out; have := O10.out; omega) R_g_10.out).mono ?_
    rintro e w11 ⟨rfl, hm11, kp, b11⟩
    have O11 := hid b11.size
    have X_p_11 := hid (X_p_10.out.kept kp (by have := O0.out; have := O1.out; have := O2.out; have := O3.out; have := O3a.out; have := O4.out; have := O4a.out; have := O5.out; have := O5a.out; have := O6.out; have := O8.out; have := O9.out; have := O10.out; have := O11.out; omega))
    have B_11 := hid (B_10.out.trans (b11.mono (by have := O0.out; have := O1.out; have := O2.out; have := O3.out; have := O3a.out; have := O4.out; have := O4a.out; have := O5.out; have := O5a.out; have := O6.out; have := O8.out; have := O9.out; have := O10.out; have := O11.out; omega)))
    have R_w_11 := hid (R_w_10.out.kept kp (by have := O0.out; have := O1.out; have := O2.out; have := O3.out; have := O3a.out; have := O4.out; have := O4a.out; have := O5.out; have := O5a.out; have := O6.out; have := O8.out; have := O9.out; have := O10.out; have := O11.out; omega))
    have X_w_11 := hid (X_w_10.out.kept kp (by have := O0.out; have := O1.out; have := O2.out; have := O3.out; have := O3a.out; have := O4.out; have := O4a.out; have := O5.out; have := O5a.out; have := O6.out; have := O8.out; have := O9.out; have := O10.out; have := O11.out; omega))
    have X_x_11 := hid (X_x_10.out.kept kp (by have := O0.out; have := O1.out; have := O2.out; have := O3.out; have := O3a.out; have := O4.out; have := O4a.out; have := O5.out; have := O5a.out; have := O6.out; have := O8.out; have := O9.out; have := O10.out; have := O11.out; omega))
    have X_g_11 := hid (X_g_10.out.kept kp (by have := O0.out; have := O1.out; have := O2.out; have := O3.out; have := O3a.out; have := O4.out; have := O4a.out; have := O5.out; have := O5a.out; have := O6.out; have := O8.out; have := O9.out; have := O10.out; have := O11.out; omega))
    clear kp b11 R_g_10 X_p_10 B_10 R_w_10 X_w_10 X_x_10 X_g_10 cX_p0_10 cX_p1_10 cX_p2_10 cX_w0_10 cX_w1_10 cX_w2_10 cX_x0_10 cX_x1_10 cX_x2_10 cX_g0_10 cX_g1_10 cX_g2_10
    have cX_p0_11 := X_p_11.out.cell (j := 0) rfl
    have cX_p1_11 := X_p_11.out.cell (j := 1) rfl
    have cX_p2_11 := X_p_11.out.cell (j := 2) rfl
    have cX_w0_11 := X_w_11.out.cell (j := 0) rfl
    have cX_w1_11 := X_w_11.out.cell (j := 1) rfl
    have cX_w2_11 := X_w_11.out.cell (j := 2) rfl
    have cX_x0_11 := X_x_11.out.cell (j := 0) rfl
    have cX_x1_11 := X_x_11.out.cell (j := 1) rfl
    have cX_x2_11 := X_x_11.out.cell (j := 2) rfl
    have cX_g0_11 := X_g_11.out.cell (j := 0) rfl
    have cX_g1_11 := X_g_11.out.cell (j := 1) rfl
    have cX_g2_11 := X_g_11.out.cell (j := 2) rfl
    have M_11 := hid hm11
    clear hm11
    go_wp2_with fail
    refine Calls.mono (heldRing_any HH t v5 A.length c5 1 (by omega) hA2 _ M_11.out) ?_
    rintro e w12 ⟨rfl, b12⟩
    have O12 := hid b12.size
    have X_p_12 := hid (X_p_11.out.on b12 X_p_11.out.lt)
    have B_12 := hid (below_via B_11.out b12)
    have R_w_12 := hid (R_w_11.out.on b12)
    have X_w_12 := hid (X_w_11.out.on b12 X_w_11.out.lt)
    have X_x_12 := hid (X_x_11.out.on b12 X_x_11.out.lt)
    have X_g_12 := hid (X_g_11.out.on b12 X_g_11.out.lt)
    have M_12 := hid (M_11.out.on b12)
    clear b12 X_p_11 B_11 R_w_11 X_w_11 X_x_11 X_g_11 M_11 cX_p0_11 cX_p1_11 cX_p2_11 cX_w0_11 cX_w1_11 cX_w2_11 cX_x0_11 cX_x1_11 cX_x2_11 cX_g0_11 cX_g1_11 cX_g2_11
    have cX_p0_12 := X_p_12.out.cell (j := 0) rfl
    have cX_p1_12 := X_p_12.out.cell (j := 1) rfl
    have cX_p2_12 := X_p_12.out.cell (j := 2) rfl
    have cX_w0_12 := X_w_12.out.cell (j := 0) rfl
    have cX_w1_12 := X_w_12.out.cell (j := 1) rfl
    have cX_w2_12 := X_w_12.out.cell (j := 2) rfl
    have cX_x0_12 := X_x_12.out.cell (j := 0) rfl
    have cX_x1_12 := X_x_12.out.cell (j := 1) rfl
    have cX_x2_12 := X_x_12.out.cell (j := 2) rfl
    have cX_g0_12 := X_g_12.out.cell (j := 0) rfl
    have cX_g1_12 := X_g_12.out.cell (j := 1) rfl
    have cX_g2_12 := X_g_12.out.cell (j := 2) rfl
    go_wp2_with fail
    refine Calls.mono (toRing_o s t ao l cap hl2 _ (HA.out.on B_12.out)) ?_
    rintro e w13 ⟨v13, c13, rfl, hc13, h13, b13⟩
    have O13 := hid b13.size
    have Y13 := hid h13
    clear h13 hc13
    have X_p_13 := hid (X_p_12.out.on b13 X_p_12.out.lt)
    have B_13 := hid (below_via B_12.out b13)
    have R_w_13 := hid (R_w_12.out.on b13)
    have X_w_13 := hid (X_w_12.out.on b13 X_w_12.out.lt)
    have X_x_13 := hid (X_x_12.out.on b13 X_x_12.out.lt)
    have X_g_13 := hid (X_g_12.out.on b13 X_g_12.out.lt)
    have M_13 := hid (M_12.out.on b13)
    clear b13 X_p_12 B_12 R_w_12 X_w_12 X_x_12 X_g_12 M_12 cX_p0_12 cX_p1_12 cX_p2_12 cX_w0_12 cX_w1_12 cX_w2_12 cX_x0_12 cX_x1_12 cX_x2_12 cX_g0_12 cX_g1_12 cX_g2_12
    have cX_p0_13 := X_p_13.out.cell (j := 0) rfl
    have cX_p1_13 := X_p_13.out.cell (j := 1) rfl
    have cX_p2_13 := X_p_13.out.cell (j := 2) rfl
    have cX_w0_13 := X_w_13.out.cell (j := 0) rfl
    have cX_w1_13 := X_w_13.out.cell (j := 1) rfl
    have cX_w2_13 := X_w_13.out.cell (j := 2) rfl
    have cX_x0_13 := X_x_13.out.cell (j := 0) rfl
    have cX_x1_13 := X_x_13.out.cell (j := 1) rfl
    have cX_x2_13 := X_x_13.out.cell (j := 2) rfl
    have cX_g0_13 := X_g_13.out.cell (j := 0) rfl
    have cX_g1_13 := X_g_13.out.cell (j := 1) rfl
    have cX_g2_13 := X_g_13.out.cell (j := 2) rfl
    have CQ := hid (implPost_any s t _ l c13 hl2 HSM.out x hxl _ Y13.out.slots)
    unfold PostRDid at CQ
    rw [hF, hHH, hOK] at CQ
    go_wp2_with fail
    refine Calls.mono (CQ.out) ?_
    rintro e w14 ⟨v14, c14, rfl, hvc14, h14, b14⟩
    have O14 := hid b14.size
    have R_h := hid h14
    clear h14 hvc14 CQ
    have X_p_14 := hid (X_p_13.out.on b14 X_p_13.out.lt)
    have B_14 := hid (below_via B_13.out b14)
    have R_w_14 := hid (R_w_13.out.on b14)
    have X_w_14 := hid (X_w_13.out.on b14 X_w_13.out.lt)
    have X_x_14 := hid (X_x_13.out.on b14 X_x_13.out.lt)
    have X_g_14 := hid (X_g_13.out.on b14 X_g_13.out.lt)
    have M_14 := hid (M_13.out.on b14)
    have Y13_14 := hid (Y13.out.on b14)
    clear b14 X_p_13 B_13 R_w_13 X_w_13 X_x_13 X_g_13 M_13 Y13 cX_p0_13 cX_p1_13 cX_p2_13 cX_w0_13 cX_w1_13 cX_w2_13 cX_x0_13 cX_x1_13 cX_x2_13 cX_g0_13 cX_g1_13 cX_g2_13
    have cX_p0_14 := X_p_14.out.cell (j := 0) rfl
    have cX_p1_14 := X_p_14.out.cell (j := 1) rfl
    have cX_p2_14 := X_p_14.out.cell (j := 2) rfl
    have cX_w0_14 := X_w_14.out.cell (j := 0) rfl
    have cX_w1_14 := X_w_14.out.cell (j := 1) rfl
    have cX_w2_14 := X_w_14.out.cell (j := 2) rfl
    have cX_x0_14 := X_x_14.out.cell (j := 0) rfl
    have cX_x1_14 := X_x_14.out.cell (j := 1) rfl
    have cX_x2_14 := X_x_14.out.cell (j := 2) rfl
    have cX_g0_14 := X_g_14.out.cell (j := 0) rfl
    have cX_g1_14 := X_g_14.out.cell (j := 1) rfl
    have cX_g2_14 := X_g_14.out.cell (j := 2) rfl
    clear Y13_14
    have ba := below_more (Below.refl w14.heap.size w14) (.cells #[.slice v14 A.length c14, .int .i64 HH, .int .i64 t] 26)
    have hx : BlockIs (w14.alloc (.cells #[.slice v14 A.length c14, .int .i64 HH, .int .i64 t] 26)) w14.heap.size 26 [.slice v14 A.length c14, .int .i64 HH, .int .i64 t] := heap_alloc_new w14 _
    have X_p_14a := hid (X_p_14.out.on ba X_p_14.out.lt)
    have B_14a := hid (below_via B_14.out ba)
    have R_w_14a := hid (R_w_14.out.on ba)
    have X_w_14a := hid (X_w_14.out.on ba X_w_14.out.lt)
    have X_x_14a := hid (X_x_14.out.on ba X_x_14.out.lt)
    have X_g_14a := hid (X_g_14.out.on ba X_g_14.out.lt)
    have M_14a := hid (M_14.out.on ba)
    have R_h_14a := hid (R_h.out.on ba)
    have X_h_14a := hid hx
    have O14a := hid hx.lt
    clear ba hx X_p_14 B_14 R_w_14 X_w_14 X_x_14 X_g_14 M_14 R_h
    have cX_p0_14a := X_p_14a.out.cell (j := 0) rfl
    have cX_p1_14a := X_p_14a.out.cell (j := 1) rfl
    have cX_p2_14a := X_p_14a.out.cell (j := 2) rfl
    have cX_w0_14a := X_w_14a.out.cell (j := 0) rfl
    have cX_w1_14a := X_w_14a.out.cell (j := 1) rfl
    have cX_w2_14a := X_w_14a.out.cell (j := 2) rfl
    have cX_x0_14a := X_x_14a.out.cell (j := 0) rfl
    have cX_x1_14a := X_x_14a.out.cell (j := 1) rfl
    have cX_x2_14a := X_x_14a.out.cell (j := 2) rfl
    have cX_g0_14a := X_g_14a.out.cell (j := 0) rfl
    have cX_g1_14a := X_g_14a.out.cell (j := 1) rfl
    have cX_g2_14a := X_g_14a.out.cell (j := 2) rfl
    have cX_h0_14a := X_h_14a.out.cell (j := 0) rfl
    have cX_h1_14a := X_h_14a.out.cell (j := 1) rfl
    have cX_h2_14a := X_h_14a.out.cell (j := 2) rfl
    go_wp2_with fail
    refine Calls.mono (eqRing_same HH t v14 v3 A c14 c3 (by omega) _ R_h_14a.out.slots R_w_14a.out.slots) ?_
    rintro e w15 ⟨rfl, b15⟩
    have O15 := hid b15.size
    have X_p_15 := hid (X_p_14a.out.on b15 X_p_14a.out.lt)
    have B_15 := hid (below_via B_14a.out b15)
    have R_w_15 := hid (R_w_14a.out.on b15)
    have X_w_15 := hid (X_w_14a.out.on b15 X_w_14a.out.lt)
    have X_x_15 := hid (X_x_14a.out.on b15 X_x_14a.out.lt)
    have X_g_15 := hid (X_g_14a.out.on b15 X_g_14a.out.lt)
    have M_15 := hid (M_14a.out.on b15)
    have R_h_15 := hid (R_h_14a.out.on b15)
    have X_h_15 := hid (X_h_14a.out.on b15 X_h_14a.out.lt)
    clear b15 X_p_14a B_14a R_w_14a X_w_14a X_x_14a X_g_14a M_14a R_h_14a X_h_14a cX_p0_14a cX_p1_14a cX_p2_14a cX_w0_14a cX_w1_14a cX_w2_14a cX_x0_14a cX_x1_14a cX_x2_14a cX_g0_14a cX_g1_14a cX_g2_14a cX_h0_14a cX_h1_14a cX_h2_14a cX_p0_14 cX_p1_14 cX_p2_14 cX_w0_14 cX_w1_14 cX_w2_14 cX_x0_14 cX_x1_14 cX_x2_14 cX_g0_14 cX_g1_14 cX_g2_14
    have cX_p0_15 := X_p_15.out.cell (j := 0) rfl
    have cX_p1_15 := X_p_15.out.cell (j := 1) rfl
    have cX_p2_15 := X_p_15.out.cell (j := 2) rfl
    have cX_w0_15 := X_w_15.out.cell (j := 0) rfl
    have cX_w1_15 := X_w_15.out.cell (j := 1) rfl
    have cX_w2_15 := X_w_15.out.cell (j := 2) rfl
    have cX_x0_15 := X_x_15.out.cell (j := 0) rfl
    have cX_x1_15 := X_x_15.out.cell (j := 1) rfl
    have cX_x2_15 := X_x_15.out.cell (j := 2) rfl
    have cX_g0_15 := X_g_15.out.cell (j := 0) rfl
    have cX_g1_15 := X_g_15.out.cell (j := 1) rfl
    have cX_g2_15 := X_g_15.out.cell (j := 2) rfl
    have cX_h0_15 := X_h_15.out.cell (j := 0) rfl
    have cX_h1_15 := X_h_15.out.cell (j := 1) rfl
    have cX_h2_15 := X_h_15.out.cell (j := 2) rfl
    go_wp2_with fail
    refine Calls.mono (heldRing_any HH t v5 A.length c5 1 (by omega) hA2 _ M_15.out) ?_
    rintro e w16 ⟨rfl, b16⟩
    have O16 := hid b16.size
    have X_p_16 := hid (X_p_15.out.on b16 X_p_15.out.lt)
    have B_16 := hid (below_via B_15.out b16)
    have R_w_16 := hid (R_w_15.out.on b16)
    have X_w_16 := hid (X_w_15.out.on b16 X_w_15.out.lt)
    have X_x_16 := hid (X_x_15.out.on b16 X_x_15.out.lt)
    have X_g_16 := hid (X_g_15.out.on b16 X_g_15.out.lt)
    have M_16 := hid (M_15.out.on b16)
    have R_h_16 := hid (R_h_15.out.on b16)
    have X_h_16 := hid (X_h_15.out.on b16 X_h_15.out.lt)
    clear b16 X_p_15 B_15 R_w_15 X_w_15 X_x_15 X_g_15 M_15 R_h_15 X_h_15 cX_p0_15 cX_p1_15 cX_p2_15 cX_w0_15 cX_w1_15 cX_w2_15 cX_x0_15 cX_x1_15 cX_x2_15 cX_g0_15 cX_g1_15 cX_g2_15 cX_h0_15 cX_h1_15 cX_h2_15
    have cX_p0_16 := X_p_16.out.cell (j := 0) rfl
    have cX_p1_16 := X_p_16.out.cell (j := 1) rfl
    have cX_p2_16 := X_p_16.out.cell (j := 2) rfl
    have cX_w0_16 := X_w_16.out.cell (j := 0) rfl
    have cX_w1_16 := X_w_16.out.cell (j := 1) rfl
    have cX_w2_16 := X_w_16.out.cell (j := 2) rfl
    have cX_x0_16 := X_x_16.out.cell (j := 0) rfl
    have cX_x1_16 := X_x_16.out.cell (j := 1) rfl
    have cX_x2_16 := X_x_16.out.cell (j := 2) rfl
    have cX_g0_16 := X_g_16.out.cell (j := 0) rfl
    have cX_g1_16 := X_g_16.out.cell (j := 1) rfl
    have cX_g2_16 := X_g_16.out.cell (j := 2) rfl
    have cX_h0_16 := X_h_16.out.cell (j := 0) rfl
    have cX_h1_16 := X_h_16.out.cell (j := 1) rfl
    have cX_h2_16 := X_h_16.out.cell (j := 2) rfl
    go_wp2
    go_ret
    exact ⟨rfl, B_16.out⟩

theorem own : ownKnob Try.prog.godebug = none := by kernel_rfl
theorem laidOut : laidOutB Try.prog = true := by kernel_rfl
theorem rowed : varsRowed Try.prog Rows.fnExactPostRingSpec.vars = true := by kernel_rfl
set_option maxRecDepth 1000000 in
theorem contract (H : Type) (enc : TypeId × Value → H) (W : World) (base : Nat) (args : Array Value) (ds gs : List (DataW H)) (before : List MemPlace)
    (hval : ∀ (j : Nat) t v, Try.f7.params[j]? = some t → args[j]? = some v → Value.okWide Try.prog W .any base t v)
    (hW : DataW.Whole enc Try.prog Try.f7.params.toList Rows.fnExactPostRingSpec.vars false W args.toList ds gs before) (_hL : laidMetH Try.prog Rows.fnExactPostRingRow.laid W) :
    Calls Try.prog 7 args W fun e W' => ∃ v, e = .returned v ∧ Rows.fnExactPostRingSpec.post enc Try.prog Try.f7 false true false false W args v W' := by
  have hW' := hW
  obtain ⟨p, q, hA0, hV0, rfl, hfz, hnd⟩ := hW
  have hV : DataW.TrodVars enc Try.prog W (fun _ => true) Rows.fnExactPostRingSpec.vars gs q := hV0
  have hA : DataW.TrodAll enc Try.prog W 0 (fun _ => true) true Try.f7.params.toList args.toList ds p := hA0
  rw [Try.params7] at hA hval
  obtain ⟨v0, vs0, d0, ds0, p0, q0, hargs0, rfl, rfl, h0, r0⟩ := trodAll_cons hA
  obtain ⟨v1, vs1, d1, ds1, p1, q1, hargs1, rfl, rfl, h1, r1⟩ := trodAll_cons r0
  subst hargs1
  obtain ⟨rfl, rfl, rfl⟩ := trodAll_nil r1
  obtain rfl : args = #[v0, v1] := by cases args; simp_all
  have k0 := h0
  have lt0 : ∀ x ∈ p0, x.block < W.heap.size := by obtain ⟨m, hm⟩ := k0; exact DataW.trod_lt m _ _ _ hm
  obtain ⟨s0, t0, a0, l0, cap0, rfl, hs0, ht0, hc0, hm0, hat0, hfit0⟩ := open_ring (hval 0 43 v0 rfl rfl) h0
  obtain ⟨a1, rfl, rfl, rfl, w1⟩ := open_string Try.underlying9 (hval 1 9 v1 rfl rfl) h1
  clear hA0 hV0
  obtain ⟨rfl, rfl⟩ := trodVars_none hV
  refine (walk s0 t0 hs0 ht0 a0 l0 cap0 (Nat.le_trans hc0 hm0) hfit0 a1 w1 W hat0).mono fun e W' ⟨he, bel⟩ => ?_
  subst he
  exact ⟨_, rfl, _, _, _, [], _, [], hW', trodAll_mk1 (shut_bool Try.underlying4 _), trodAll_cons_mk (Below.trod laidOut (by kernel_rfl) (of_decide_eq_true (by kernel_rfl)) k0 bel lt0) (trodAll_cons_mk (shut_string Try.underlying9 w1) (trodAll_mk0)), rfl, bel.frame _, fun h => by cases h⟩

def put (cs : Array Value) : Obj → Obj
  | .cells _ t frozen => .cells cs t frozen
  | o => o

/-- a world for the witness: the tables hold what their initialisers lay -/
def laidWorld (w : World) : World := { w with heap := w.heap }
theorem laid_met (os : Os) : laidMet Try.prog Rows.fnExactPostRingRow.laid ((laidWorld (World.holding Try.prog os ⟨#[], #[], []⟩)).forCall (fun _ _ => 0) ⟨#[], #[.agg #[.slice none 0 0, .int .i64 0, .int .i64 0], .string ByteArray.empty], []⟩).memory :=
  laidMet_of_run' 8 (by kernel_rfl) (by kernel_rfl)
theorem reads (os : Os) {H : Type} (enc : TypeId × Value → H) : ∃ places, DataW.whole enc Try.prog ((laidWorld (World.holding Try.prog os ⟨#[], #[], []⟩)).forCall (fun _ _ => 0) ⟨#[], #[.agg #[.slice none 0 0, .int .i64 0, .int .i64 0], .string ByteArray.empty], []⟩).memory Try.f7.params.toList Rows.fnExactPostRingSpec.vars false #[Value.agg #[.slice none 0 0, .int .i64 0, .int .i64 0], .string ByteArray.empty].toList 8 = some ([.agg [.nil, .lit (.int .i64 0), .lit (.int .i64 0)], .lit (.string [])], [], places) :=
  ⟨[], by kernel_rfl⟩

set_option maxRecDepth 1000000 in
theorem lifted (os : Os) (started : os.Started) (H : Type) (enc : TypeId × Value → H) (F : Stop.Interp) :
    ReturnsInHanded {} Try.checked os 7 .any ((OpenSpec.ofChange Rows.fnExactPostRingSpec).preRow enc Try.prog Try.f7 Rows.fnExactPostRingRow.domain false Rows.fnExactPostRingRow.laid) (((OpenSpec.ofChange Rows.fnExactPostRingSpec).at F).post enc Try.prog Try.f7 false true false false) := by
  obtain ⟨places, hx⟩ := reads os enc
  refine returnsInHanded_of_row (C := Try.checked) (s := OpenSpec.ofChange Rows.fnExactPostRingSpec) own started (by kernel_rfl) Try.func7
    (witness_row_at (enc := enc) (C := Try.checked) false (laidWorld (World.holding Try.prog os ⟨#[], #[], []⟩)) #[.agg #[.slice none 0 0, .int .i64 0, .int .i64 0], .string ByteArray.empty] rfl (by kernel_rfl) (by kernel_rfl) (by kernel_rfl)
      (OpenSpec.preRow_of_cond 8 hx (by kernel_rfl) (fun k hk => by cases hk) (by kernel_rfl) (laid_met os))) ?_
  intro W base args ds gs before hval hW _ _ _ hL _ _
  exact contract H enc W base args ds gs before hval hW hL

theorem said : Rows.FnExactPostRingSaid :=
  OpenClaim.holds_of_cond 7 Try.f7 rfl rfl rfl rfl rfl rfl rfl ⟨rfl, rfl, rfl, rfl, rfl⟩ rfl rfl rfl rfl rfl (by kernel_rfl) Try.func7 (by kernel_rfl)
    (of_decide_eq_true (by kernel_rfl)) (by unfold Func.isWrapper; first | (rw [if_pos (by decide +kernel)]; kernel_rfl) | (rw [if_neg (by decide +kernel)]; exact ⟨rfl, rfl⟩))
    (fun os started H enc _ F => by rw [OpenClaim.pre_eq_preRow]; exact lifted os started H enc F)

end Go.Proofs.Ytjcphahbplmmdaa.fnExactPostRing
