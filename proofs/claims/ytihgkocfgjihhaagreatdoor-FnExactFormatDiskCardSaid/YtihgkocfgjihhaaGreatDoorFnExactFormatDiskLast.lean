/-
  For every argument, laws.FnExactFormatDisk returns true: impl.FormatDisk and spec.FormatDisk answer alike, no argument is written, the answer owns its memory; nothing that was in memory is written.
-/
import Derived.Test.YtihgkocfgjihhaaGreatDoorCards
import Derived.Test.YtihgkocfgjihhaaGreatDoorTie
import Derived.Test.YtihgkocfgjihhaaGreatDoorJoint1
import Derived.Test.YtihgkocfgjihhaaGreatDoorJoint9
import Derived.Test.YtihgkocfgjihhaaGreatDoorJoint31
import Derived.Test.YtihgkocfgjihhaaGreatDoorJoint50
import Derived.Deep.RegionWith
import Derived.WalkSmall
import Derived.WalkKit
import Derived.ProofKit
import Derived.OpenShut
import Derived.OpenVars
import Derived.Deep.DeepHandedRow
import Derived.Lib.LaidTab
import Derived.Stop.LaidErr
namespace Go.Proofs.YtihgkocfgjihhaaGreatDoor.fnExactFormatDisk
open Go.ChangeShapes Go.WideShapes Go.ChangeAt Go.ChangeMaps Go.RowKit

set_option maxRecDepth 1000000 in
set_option maxHeartbeats 8000000 in
theorem walk (lo : Option Addr) (zs : List Int) (lcap : Nat) (_hzl : zs.length ≤ maxLen) (_hzf : IntsFit zs) (w : World) (hz : IntsAt w lo zs) (ht : Steps w) (htab : Lib.TabIs Tryz.prog w "internal/strconv.uint64pow10" .u64 Lib.pow10Tab) :
    Calls Tryz.prog 3 #[.slice lo zs.length lcap] w fun e w' => e = .returned (.bool true) ∧ Below w.heap.size w w' := by
  have HZ := hid hz
  have HT := hid ht
  have HTB := hid htab
  clear ht htab
  have HB := hid (Below.refl w.heap.size w)
  clear hz
  by_cases hbig : (1048576 : Int) < (zs.length : Int)
  · go_enter Tryz.func3, Tryz.ntmps3
    go_wp2
    go_ret
    exact ⟨rfl, HB.out⟩
  have hzl2 : zs.length ≤ 1048576 := by omega
  go_enter Tryz.func3, Tryz.ntmps3
  obtain ⟨A, ok, hF⟩ : ∃ A ok, fmtAns zs = (A, ok) := ⟨_, _, rfl⟩
  have hA2 : A.length ≤ 1048576 := by have := fmtAns_small (zs := zs); rw [hF] at this; exact this
  go_wp2_with fail
  refine (toIntS_o lo zs lcap hzl2 _ (HZ.out.on HB.out)).mono ?_
  rintro e w1 ⟨g1, rfl, hlo1, hhi1, h1, b1⟩
  have O1 := hid b1.size
  have Y1 := hid h1
  clear h1
  have B_1 := hid (below_via HB.out b1)
  clear b1 HB
  have CQ := hid (specFormatDisk_o _ zs zs.length hzl2 _ (ints_of Y1.out))
  rw [hF] at CQ
  dsimp only at CQ
  go_wp2_with fail
  refine Calls.mono CQ.out ?_
  rintro e w2 ⟨v2, c2, rfl, h2, b2⟩
  have O2 := hid b2.size
  have R_w := hid h2
  clear h2 CQ
  have B_2 := hid (below_via B_1.out b2)
  have Y1_2 := hid (Y1.out.on b2 Y1.out.lt)
  clear b2 B_1 Y1
  clear Y1_2
  have ba := below_more (Below.refl w2.heap.size w2) (.cells #[.slice v2 A.length c2] 25)
  have hx : BlockIs (w2.alloc (.cells #[.slice v2 A.length c2] 25)) w2.heap.size 25 [.slice v2 A.length c2] := heap_alloc_new w2 _
  have B_2a := hid (below_via B_2.out ba)
  have R_w_2a := hid (R_w.out.on ba)
  have X_w_2a := hid hx
  have O2a := hid hx.lt
  clear ba hx B_2 R_w
  have cX_w0_2a := X_w_2a.out.cell (j := 0) rfl
  go_wp2_with fail
  refine (toIntS_o lo zs lcap hzl2 _ (HZ.out.on B_2a.out)).mono ?_
  rintro e w3 ⟨g3, rfl, hlo3, hhi3, h3, b3⟩
  have O3 := hid b3.size
  have Y3 := hid h3
  clear h3
  have B_3 := hid (below_via B_2a.out b3)
  have R_w_3 := hid (R_w_2a.out.on b3)
  have X_w_3 := hid (X_w_2a.out.on b3 X_w_2a.out.lt)
  clear b3 B_2a R_w_2a X_w_2a cX_w0_2a
  have cX_w0_3 := X_w_3.out.cell (j := 0) rfl
  have CQ := hid (implFormatDisk_o _ zs zs.length hzl2 _ (ints_of Y3.out) (steps_on HT.out B_3.out) (table_on HTB.out B_3.out))
  rw [hF] at CQ
  dsimp only at CQ
  go_wp2_with fail
  refine Calls.mono CQ.out ?_
  rintro e w4 ⟨v4, c4, rfl, h4, b4⟩
  have O4 := hid b4.size
  have R_g := hid h4
  clear h4 CQ
  have B_4 := hid (below_via B_3.out b4)
  have R_w_4 := hid (R_w_3.out.on b4)
  have X_w_4 := hid (X_w_3.out.on b4 X_w_3.out.lt)
  have Y3_4 := hid (Y3.out.on b4 Y3.out.lt)
  clear b4 B_3 R_w_3 X_w_3 Y3 cX_w0_3
  have cX_w0_4 := X_w_4.out.cell (j := 0) rfl
  have ba := below_more (Below.refl w4.heap.size w4) (.cells #[.slice v4 A.length c4] 25)
  have hx : BlockIs (w4.alloc (.cells #[.slice v4 A.length c4] 25)) w4.heap.size 25 [.slice v4 A.length c4] := heap_alloc_new w4 _
  have B_4a := hid (below_via B_4.out ba)
  have R_w_4a := hid (R_w_4.out.on ba)
  have X_w_4a := hid (X_w_4.out.on ba X_w_4.out.lt)
  have Y3_4a := hid (Y3_4.out.on ba Y3_4.out.lt)
  have R_g_4a := hid (R_g.out.on ba)
  have X_g_4a := hid hx
  have O4a := hid hx.lt
  clear ba hx B_4 R_w_4 X_w_4 Y3_4 R_g
  have cX_w0_4a := X_w_4a.out.cell (j := 0) rfl
  have cX_g0_4a := X_g_4a.out.cell (j := 0) rfl
  go_wp2_with fail
  refine (eqDisk_o v4 v2 A c4 c2 hA2 _ (R_g_4a.out.files) (R_w_4a.out.files)).mono ?_
  rintro e w5 ⟨rfl, b5⟩
  have O5 := hid b5.size
  have B_5 := hid (below_via B_4a.out b5)
  have R_w_5 := hid (R_w_4a.out.on b5)
  have X_w_5 := hid (X_w_4a.out.on b5 X_w_4a.out.lt)
  have Y3_5 := hid (Y3_4a.out.on b5 Y3_4a.out.lt)
  have R_g_5 := hid (R_g_4a.out.on b5)
  have X_g_5 := hid (X_g_4a.out.on b5 X_g_4a.out.lt)
  clear b5 B_4a R_w_4a X_w_4a Y3_4a R_g_4a X_g_4a cX_w0_4a cX_g0_4a cX_w0_4
  have cX_w0_5 := X_w_5.out.cell (j := 0) rfl
  have cX_g0_5 := X_g_5.out.cell (j := 0) rfl
  go_wp2_with fail
  refine (toIntS_o lo zs lcap hzl2 _ (HZ.out.on B_5.out)).mono ?_
  rintro e w6 ⟨g6, rfl, hlo6, hhi6, h6, b6⟩
  have O6 := hid b6.size
  have Y6 := hid h6
  clear h6
  have B_6 := hid (below_via B_5.out b6)
  have R_w_6 := hid (R_w_5.out.on b6)
  have X_w_6 := hid (X_w_5.out.on b6 X_w_5.out.lt)
  have Y3_6 := hid (Y3_5.out.on b6 Y3_5.out.lt)
  have R_g_6 := hid (R_g_5.out.on b6)
  have X_g_6 := hid (X_g_5.out.on b6 X_g_5.out.lt)
  clear b6 B_5 R_w_5 X_w_5 Y3_5 R_g_5 X_g_5 cX_w0_5 cX_g0_5
  have cX_w0_6 := X_w_6.out.cell (j := 0) rfl
  have cX_g0_6 := X_g_6.out.cell (j := 0) rfl
  go_wp2_with fail
  refine (eqIntS_same _ _ zs _ _ (by omega) _ (ints_of Y3_6.out) (ints_of Y6.out)).mono ?_
  rintro e w7 ⟨rfl, b7⟩
  have O7 := hid b7.size
  have B_7 := hid (below_via B_6.out b7)
  have R_w_7 := hid (R_w_6.out.on b7)
  have X_w_7 := hid (X_w_6.out.on b7 X_w_6.out.lt)
  have Y3_7 := hid (Y3_6.out.on b7 Y3_6.out.lt)
  have R_g_7 := hid (R_g_6.out.on b7)
  have X_g_7 := hid (X_g_6.out.on b7 X_g_6.out.lt)
  have Y6_7 := hid (Y6.out.on b7 Y6.out.lt)
  clear b7 B_6 R_w_6 X_w_6 Y3_6 R_g_6 X_g_6 Y6 cX_w0_6 cX_g0_6
  have cX_w0_7 := X_w_7.out.cell (j := 0) rfl
  have cX_g0_7 := X_g_7.out.cell (j := 0) rfl
  clear Y6_7
  go_wp2_with fail
  refine (markIntS_o g3 zs _ (1) (by omega) hzl2 _ Y3_7.out).mono ?_
  rintro e w8 ⟨rfl, kp, b8⟩
  have O8 := hid b8.size
  have B_8 := hid (B_7.out.trans (b8.mono (by have := O1.out; have := O2.out; have := O2a.out; have := O3.out; have := O4.out; have := O4a.out; have := O5.out; have := O6.out; have := O7.out; have := O8.out; omega)))
  have R_w_8 := hid (R_w_7.out.kept kp (by have := O1.out; have := O2.out; have := O2a.out; have := O3.out; have := O4.out; have := O4a.out; have := O5.out; have := O6.out; have := O7.out; have := O8.out; omega))
  have X_w_8 := hid (X_w_7.out.kept kp (by have := O1.out; have := O2.out; have := O2a.out; have := O3.out; have := O4.out; have := O4a.out; have := O5.out; have := O6.out; have := O7.out; have := O8.out; omega))
  have R_g_8 := hid (R_g_7.out.kept kp (by have := O1.out; have := O2.out; have := O2a.out; have := O3.out; have := O4.out; have := O4a.out; have := O5.out; have := O6.out; have := O7.out; have := O8.out; omega))
  have X_g_8 := hid (X_g_7.out.kept kp (by have := O1.out; have := O2.out; have := O2a.out; have := O3.out; have := O4.out; have := O4a.out; have := O5.out; have := O6.out; have := O7.out; have := O8.out; omega))
  clear kp b8 Y3_7 B_7 R_w_7 X_w_7 R_g_7 X_g_7 cX_w0_7 cX_g0_7
  have cX_w0_8 := X_w_8.out.cell (j := 0) rfl
  have cX_g0_8 := X_g_8.out.cell (j := 0) rfl
  go_wp2_with fail
  refine (eqDisk_o v4 v2 A c4 c2 hA2 _ (R_g_8.out.files) (R_w_8.out.files)).mono ?_
  rintro e w9 ⟨rfl, b9⟩
  have O9 := hid b9.size
  have B_9 := hid (below_via B_8.out b9)
  have R_w_9 := hid (R_w_8.out.on b9)
  have X_w_9 := hid (X_w_8.out.on b9 X_w_8.out.lt)
  have R_g_9 := hid (R_g_8.out.on b9)
  have X_g_9 := hid (X_g_8.out.on b9 X_g_8.out.lt)
  clear b9 B_8 R_w_8 X_w_8 R_g_8 X_g_8 cX_w0_8 cX_g0_8
  have cX_w0_9 := X_w_9.out.cell (j := 0) rfl
  have cX_g0_9 := X_g_9.out.cell (j := 0) rfl
  go_wp2_with fail
  refine (markDisk_o 1 v4 c4 A (w3.heap.size) (w4.heap.size) (by omega) (by omega) _ (by have := O1.out; have := O2.out; have := O2a.out; have := O3.out; have := O4.out; have := O4a.out; have := O5.out; have := O6.out; have := O7.out; have := O8.out; have := O9.out; omega) R_g_9.out).mono ?_
  rintro e w10 ⟨rfl, hm10, kp, b10⟩
  have O10 := hid b10.size
  have B_10 := hid (B_9.out.trans (b10.mono (by have := O1.out; have := O2.out; have := O2a.out; have := O3.out; have := O4.out; have := O4a.out; have := O5.out; have := O6.out; have := O7.out; have := O8.out; have := O9.out; have := O10.out; omega)))
  have R_w_10 := hid (R_w_9.out.kept kp (by have := O1.out; have := O2.out; have := O2a.out; have := O3.out; have := O4.out; have := O4a.out; have := O5.out; have := O6.out; have := O7.out; have := O8.out; have := O9.out; have := O10.out; omega))
  have X_w_10 := hid (X_w_9.out.kept kp (by have := O1.out; have := O2.out; have := O2a.out; have := O3.out; have := O4.out; have := O4a.out; have := O5.out; have := O6.out; have := O7.out; have := O8.out; have := O9.out; have := O10.out; omega))
  have X_g_10 := hid (X_g_9.out.kept kp (by have := O1.out; have := O2.out; have := O2a.out; have := O3.out; have := O4.out; have := O4a.out; have := O5.out; have := O6.out; have := O7.out; have := O8.out; have := O9.out; have := O10.out; omega))
  clear kp b10 R_g_9 B_9 R_w_9 X_w_9 X_g_9 cX_w0_9 cX_g0_9
  have cX_w0_10 := X_w_10.out.cell (j := 0) rfl
  have cX_g0_10 := X_g_10.out.cell (j := 0) rfl
  have M_10 := hid hm10
  clear hm10
  go_wp2_with fail
  refine (heldDisk_any v4 A.length c4 1 (by omega) hA2 _ M_10.out).mono ?_
  rintro e w11 ⟨rfl, b11⟩
  have O11 := hid b11.size
  have B_11 := hid (below_via B_10.out b11)
  have R_w_11 := hid (R_w_10.out.on b11)
  have X_w_11 := hid (X_w_10.out.on b11 X_w_10.out.lt)
  have X_g_11 := hid (X_g_10.out.on b11 X_g_10.out.lt)
  have M_11 := hid (M_10.out.on b11)
  clear b11 B_10 R_w_10 X_w_10 X_g_10 M_10 cX_w0_10 cX_g0_10
  have cX_w0_11 := X_w_11.out.cell (j := 0) rfl
  have cX_g0_11 := X_g_11.out.cell (j := 0) rfl
  go_wp2_with fail
  refine (toIntS_o lo zs lcap hzl2 _ (HZ.out.on B_11.out)).mono ?_
  rintro e w12 ⟨g12, rfl, hlo12, hhi12, h12, b12⟩
  have O12 := hid b12.size
  have Y12 := hid h12
  clear h12
  have B_12 := hid (below_via B_11.out b12)
  have R_w_12 := hid (R_w_11.out.on b12)
  have X_w_12 := hid (X_w_11.out.on b12 X_w_11.out.lt)
  have X_g_12 := hid (X_g_11.out.on b12 X_g_11.out.lt)
  have M_12 := hid (M_11.out.on b12)
  clear b12 B_11 R_w_11 X_w_11 X_g_11 M_11 cX_w0_11 cX_g0_11
  have cX_w0_12 := X_w_12.out.cell (j := 0) rfl
  have cX_g0_12 := X_g_12.out.cell (j := 0) rfl
  have CQ := hid (implFormatDisk_o _ zs zs.length hzl2 _ (ints_of Y12.out) (steps_on HT.out B_12.out) (table_on HTB.out B_12.out))
  rw [hF] at CQ
  dsimp only at CQ
  go_wp2_with fail
  refine Calls.mono CQ.out ?_
  rintro e w13 ⟨v13, c13, rfl, h13, b13⟩
  have O13 := hid b13.size
  have R_h := hid h13
  clear h13 CQ
  have B_13 := hid (below_via B_12.out b13)
  have R_w_13 := hid (R_w_12.out.on b13)
  have X_w_13 := hid (X_w_12.out.on b13 X_w_12.out.lt)
  have X_g_13 := hid (X_g_12.out.on b13 X_g_12.out.lt)
  have M_13 := hid (M_12.out.on b13)
  have Y12_13 := hid (Y12.out.on b13 Y12.out.lt)
  clear b13 B_12 R_w_12 X_w_12 X_g_12 M_12 Y12 cX_w0_12 cX_g0_12
  have cX_w0_13 := X_w_13.out.cell (j := 0) rfl
  have cX_g0_13 := X_g_13.out.cell (j := 0) rfl
  clear Y12_13
  have ba := below_more (Below.refl w13.heap.size w13) (.cells #[.slice v13 A.length c13] 25)
  have hx : BlockIs (w13.alloc (.cells #[.slice v13 A.length c13] 25)) w13.heap.size 25 [.slice v13 A.length c13] := heap_alloc_new w13 _
  have B_13a := hid (below_via B_13.out ba)
  have R_w_13a := hid (R_w_13.out.on ba)
  have X_w_13a := hid (X_w_13.out.on ba X_w_13.out.lt)
  have X_g_13a := hid (X_g_13.out.on ba X_g_13.out.lt)
  have M_13a := hid (M_13.out.on ba)
  have R_h_13a := hid (R_h.out.on ba)
  have X_h_13a := hid hx
  have O13a := hid hx.lt
  clear ba hx B_13 R_w_13 X_w_13 X_g_13 M_13 R_h
  have cX_w0_13a := X_w_13a.out.cell (j := 0) rfl
  have cX_g0_13a := X_g_13a.out.cell (j := 0) rfl
  have cX_h0_13a := X_h_13a.out.cell (j := 0) rfl
  go_wp2_with fail
  refine (eqDisk_o v13 v2 A c13 c2 hA2 _ (R_h_13a.out.files) (R_w_13a.out.files)).mono ?_
  rintro e w14 ⟨rfl, b14⟩
  have O14 := hid b14.size
  have B_14 := hid (below_via B_13a.out b14)
  have R_w_14 := hid (R_w_13a.out.on b14)
  have X_w_14 := hid (X_w_13a.out.on b14 X_w_13a.out.lt)
  have X_g_14 := hid (X_g_13a.out.on b14 X_g_13a.out.lt)
  have M_14 := hid (M_13a.out.on b14)
  have R_h_14 := hid (R_h_13a.out.on b14)
  have X_h_14 := hid (X_h_13a.out.on b14 X_h_13a.out.lt)
  clear b14 B_13a R_w_13a X_w_13a X_g_13a M_13a R_h_13a X_h_13a cX_w0_13a cX_g0_13a cX_h0_13a cX_w0_13 cX_g0_13
  have cX_w0_14 := X_w_14.out.cell (j := 0) rfl
  have cX_g0_14 := X_g_14.out.cell (j := 0) rfl
  have cX_h0_14 := X_h_14.out.cell (j := 0) rfl
  go_wp2_with fail
  refine (heldDisk_any v4 A.length c4 1 (by omega) hA2 _ M_14.out).mono ?_
  rintro e w15 ⟨rfl, b15⟩
  have O15 := hid b15.size
  have B_15 := hid (below_via B_14.out b15)
  have R_w_15 := hid (R_w_14.out.on b15)
  have X_w_15 := hid (X_w_14.out.on b15 X_w_14.out.lt)
  have X_g_15 := hid (X_g_14.out.on b15 X_g_14.out.lt)
  have M_15 := hid (M_14.out.on b15)
  have R_h_15 := hid (R_h_14.out.on b15)
  have X_h_15 := hid (X_h_14.out.on b15 X_h_14.out.lt)
  clear b15 B_14 R_w_14 X_w_14 X_g_14 M_14 R_h_14 X_h_14 cX_w0_14 cX_g0_14 cX_h0_14
  have cX_w0_15 := X_w_15.out.cell (j := 0) rfl
  have cX_g0_15 := X_g_15.out.cell (j := 0) rfl
  have cX_h0_15 := X_h_15.out.cell (j := 0) rfl
  go_wp2
  go_ret
  exact ⟨rfl, B_15.out⟩

theorem own : ownKnob Tryz.prog.godebug = none := by kernel_rfl
theorem laidOut : laidOutB Tryz.prog = true := by kernel_rfl
theorem rowed : varsRowed Tryz.prog Rows.fnExactFormatDiskSpec.vars = true := by kernel_rfl
/-- what the row's list gives: what loop.example/g00232/impl.fourSteps holds -/
theorem table0 {W : World} (h : laidMetH Tryz.prog Rows.fnExactFormatDiskRow.laid W) : Lib.TabIs Tryz.prog W "loop.example/g00232/impl.fourSteps" .u32 stepsTab := by
  have h1 : laidMet Tryz.prog Rows.fnExactFormatDiskRow.laid W := h
  unfold Rows.fnExactFormatDiskRow at h1
  have h2 := h1.tail.tail.tail.tail
  rw [show (Rows.laid_loop_example_g00232_impl_fourSteps : DataW Unit) = Lib.tabData .u32 stepsTab by kernel_rfl] at h2
  exact Lib.tabIs_of_head (show Tryz.prog.globalNamed "loop.example/g00232/impl.fourSteps" = some 1 by kernel_rfl) (show (Tryz.prog.globals[1]?).map (·.type) = some 253 by kernel_rfl) Tryz.underlying253 Tryz.underlying171 (show Tryz.prog.cellsOf 171 = 1 by kernel_rfl) (show Tryz.prog.cellsOf 253 = 16 by kernel_rfl) h2
/-- what the row's list gives: what internal/strconv.uint64pow10 holds -/
theorem table1 {W : World} (h : laidMetH Tryz.prog Rows.fnExactFormatDiskRow.laid W) : Lib.TabIs Tryz.prog W "internal/strconv.uint64pow10" .u64 Lib.pow10Tab := by
  have h1 : laidMet Tryz.prog Rows.fnExactFormatDiskRow.laid W := h
  unfold Rows.fnExactFormatDiskRow at h1
  have h2 := h1.tail.tail
  rw [show (Rows.laid_internal_strconv_uint64pow10 : DataW Unit) = Lib.tabData .u64 Lib.pow10Tab by kernel_rfl] at h2
  exact Lib.tabIs_of_head (show Tryz.prog.globalNamed "internal/strconv.uint64pow10" = some 2 by kernel_rfl) (show (Tryz.prog.globals[2]?).map (·.type) = some 264 by kernel_rfl) Tryz.underlying264 Tryz.underlying255 (show Tryz.prog.cellsOf 255 = 1 by kernel_rfl) (show Tryz.prog.cellsOf 264 = 20 by kernel_rfl) h2
set_option maxRecDepth 1000000 in
theorem contract (H : Type) (enc : TypeId × Value → H) (W : World) (base : Nat) (args : Array Value) (ds gs : List (DataW H)) (before : List MemPlace)
    (hval : ∀ (j : Nat) t v, Tryz.f3.params[j]? = some t → args[j]? = some v → Value.okWide Tryz.prog W .any base t v)
    (hW : DataW.Whole enc Tryz.prog Tryz.f3.params.toList Rows.fnExactFormatDiskSpec.vars false W args.toList ds gs before) (hL : laidMetH Tryz.prog Rows.fnExactFormatDiskRow.laid W) :
    Calls Tryz.prog 3 args W fun e W' => ∃ v, e = .returned v ∧ Rows.fnExactFormatDiskSpec.post enc Tryz.prog Tryz.f3 false true false false W args v W' := by
  have hW' := hW
  obtain ⟨p, q, hA0, hV0, rfl, hfz, hnd⟩ := hW
  have hV : DataW.TrodVars enc Tryz.prog W (fun _ => true) Rows.fnExactFormatDiskSpec.vars gs q := hV0
  have hA : DataW.TrodAll enc Tryz.prog W 0 (fun _ => true) true Tryz.f3.params.toList args.toList ds p := hA0
  rw [Tryz.params3] at hA hval
  obtain ⟨v0, vs0, d0, ds0, p0, q0, hargs0, rfl, rfl, h0, r0⟩ := trodAll_cons hA
  obtain ⟨rfl, rfl, rfl⟩ := trodAll_nil r0
  obtain rfl : args = #[v0] := by cases args; simp_all
  have k0 := h0
  have lt0 : ∀ x ∈ p0, x.block < W.heap.size := by obtain ⟨m, hm⟩ := k0; exact DataW.trod_lt m _ _ _ hm
  obtain ⟨a0, z0, cap0, rfl, hc0, hm0, hat0, hf0⟩ := open_intS (hval 0 22 v0 rfl rfl) h0
  clear hA0 hV0
  have hgs : gs.length = 1 := by
    have := hV
    clear hV hW' hL
    match gs, this with
    | [_], _ => rfl
  match gs, hgs, hV, hW' with
  | [g0], _, hV, hW' =>
    refine (walk a0 z0 cap0 (Nat.le_trans hc0 hm0) hf0 W hat0 (table0 hL) (table1 hL)).mono fun e W' ⟨he, bel⟩ => ?_
    subst he
    exact ⟨_, rfl, _, _, _, [], _, _, hW', trodAll_mk1 (shut_bool Tryz.underlying4 _), trodAll_cons_mk (Below.trod laidOut (by kernel_rfl) (of_decide_eq_true (by kernel_rfl)) k0 bel lt0) (trodAll_mk0), Below.trodVars laidOut bel rowed hV, bel.frame _, fun h => by cases h⟩

def put (cs : Array Value) : Obj → Obj
  | .cells _ t frozen => .cells cs t frozen
  | o => o

/-- a world for the witness: the tables hold what their initialisers lay -/
def laidWorld (w : World) : World := { w with heap := (((((w.heap.modify 0 (put #[.iface 271 (.pointer (some ⟨10, 0, none⟩))])).modify 3 (put (([0, 1, 28, 2, 29, 14, 24, 3, 30, 22, 20, 15, 25, 17, 4, 8, 31, 27, 13, 23, 21, 19, 16, 7, 26, 12, 18, 6, 11, 5, 10, 9] : List Int).map (Value.int .u8)).toArray)).modify 4 (put (([0, 1, 56, 2, 57, 49, 28, 3, 61, 58, 42, 50, 38, 29, 17, 4, 62, 47, 59, 36, 45, 43, 51, 22, 53, 39, 33, 30, 24, 18, 12, 5, 63, 55, 48, 27, 60, 41, 37, 16, 46, 35, 44, 21, 52, 32, 23, 11, 54, 26, 40, 15, 34, 20, 31, 10, 25, 14, 19, 9, 13, 8, 7, 6] : List Int).map (Value.int .u8)).toArray)).modify 2 (put (([1, 10, 100, 1000, 10000, 100000, 1000000, 10000000, 100000000, 1000000000, 10000000000, 100000000000, 1000000000000, 10000000000000, 100000000000000, 1000000000000000, 10000000000000000, 100000000000000000, 1000000000000000000, 10000000000000000000] : List Int).map (Value.int .u64)).toArray)).modify 1 (put (([0, 1166650509, 2333301018, 3466261911, 3189058079, 4221339282, 889615109, 1888477064, 3558460437, 2442158232, 1594529039, 444807554, 1779230218, 797264519, 3776954128, 2761298845] : List Int).map (Value.int .u32)).toArray)) }
theorem laid_met (os : Os) : laidMet Tryz.prog Rows.fnExactFormatDiskRow.laid ((laidWorld (World.holding Tryz.prog os ⟨#[.cells #[.string { data := #[98, 121, 116, 101, 115, 46, 66, 117, 102, 102, 101, 114, 58, 32, 116, 111, 111, 32, 108, 97, 114, 103, 101] }] 285], #[], []⟩)).forCall (fun _ _ => 0) ⟨#[], #[.slice none 0 0], []⟩).memory :=
  laidMet_of_run' 8 (by kernel_rfl) (by kernel_rfl)
theorem reads (os : Os) {H : Type} (enc : TypeId × Value → H) : ∃ places, DataW.whole enc Tryz.prog ((laidWorld (World.holding Tryz.prog os ⟨#[.cells #[.string { data := #[98, 121, 116, 101, 115, 46, 66, 117, 102, 102, 101, 114, 58, 32, 116, 111, 111, 32, 108, 97, 114, 103, 101] }] 285], #[], []⟩)).forCall (fun _ _ => 0) ⟨#[], #[.slice none 0 0], []⟩).memory Tryz.f3.params.toList Rows.fnExactFormatDiskSpec.vars false #[Value.slice none 0 0].toList 8 = some ([.nil], [Rows.laid_loop_example_g00232_impl_fourSteps], places) :=
  ⟨(List.range 16).map (MemPlace.cell 1), by kernel_rfl⟩

set_option maxRecDepth 1000000 in
theorem lifted (os : Os) (started : os.Started) (H : Type) (enc : TypeId × Value → H) (F : Stop.Interp) :
    ReturnsInHanded {} Tryz.checked os 3 .any ((OpenSpec.ofChange Rows.fnExactFormatDiskSpec).preRow enc Tryz.prog Tryz.f3 Rows.fnExactFormatDiskRow.domain false Rows.fnExactFormatDiskRow.laid) (((OpenSpec.ofChange Rows.fnExactFormatDiskSpec).at F).post enc Tryz.prog Tryz.f3 false true false false) := by
  obtain ⟨places, hx⟩ := reads os enc
  refine returnsInHanded_of_row (C := Tryz.checked) (s := OpenSpec.ofChange Rows.fnExactFormatDiskSpec) own started (by kernel_rfl) Tryz.func3
    (witness_row_at (enc := enc) (C := Tryz.checked) false (laidWorld (World.holding Tryz.prog os ⟨#[.cells #[.string { data := #[98, 121, 116, 101, 115, 46, 66, 117, 102, 102, 101, 114, 58, 32, 116, 111, 111, 32, 108, 97, 114, 103, 101] }] 285], #[], []⟩)) #[.slice none 0 0] rfl (by kernel_rfl) (by kernel_rfl) (by kernel_rfl)
      (OpenSpec.preRow_of_cond 8 hx (by kernel_rfl) (fun k hk => by cases hk) (by kernel_rfl) (laid_met os))) ?_
  intro W base args ds gs before hval hW _ _ _ hL _ _
  exact contract H enc W base args ds gs before hval hW hL

theorem said : Rows.FnExactFormatDiskSaid :=
  OpenClaim.holds_of_cond 3 Tryz.f3 rfl rfl rfl rfl rfl rfl rfl ⟨rfl, rfl, rfl, rfl, rfl⟩ rfl rfl rfl rfl rfl (by kernel_rfl) Tryz.func3 (by kernel_rfl)
    (of_decide_eq_true (by kernel_rfl)) (by unfold Func.isWrapper; first | (rw [if_pos (by decide +kernel)]; kernel_rfl) | (rw [if_neg (by decide +kernel)]; exact ⟨rfl, rfl⟩))
    (fun os started H enc _ F => by rw [OpenClaim.pre_eq_preRow]; exact lifted os started H enc F)

theorem plain (f : FuncId) (fn : Func) (hf : Tryz.pinned.checked.prog.funcNamed "loop.example/g00232/laws.FnExactFormatDisk" = some f) (hfn : Tryz.pinned.checked.prog.funcs[f]? = some fn) :
    true = Tryz.pinned.checked.prog.looks [] ∧ ∀ (j : Nat) t, fn.params[j]? = some t → Tryz.pinned.checked.prog.wantsStandIn t = false := by
  obtain rfl : f = 3 := Option.some.inj ((show Tryz.prog.funcNamed "loop.example/g00232/laws.FnExactFormatDisk" = some 3 by kernel_rfl).symm.trans hf) |>.symm
  obtain rfl : fn = Tryz.f3 := (Option.some.inj (Tryz.func3.symm.trans hfn)).symm
  refine ⟨by kernel_rfl, fun j t ht => ?_⟩
  rw [Tryz.params3] at ht
  obtain rfl : t = 22 := by simpa using Array.mem_of_getElem? ht
  exact (show Tryz.prog.wantsStandIn 22 = false by kernel_rfl)

theorem card : Rows.FnExactFormatDiskCardSaid :=
  Claim7.holds_tied_plain_at .later [] _ _ _ _ said (fun _ h => by cases h) (by kernel_rfl) (fun _ h => by cases h) fnExactFormatDisk_row_tie rfl ⟨rfl, rfl⟩ (by kernel_rfl) rfl plain (by kernel_rfl)
end Go.Proofs.YtihgkocfgjihhaaGreatDoor.fnExactFormatDisk
