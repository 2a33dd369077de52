/-
  For every argument, laws.FnExactCutActs returns true: impl.CutActs and spec.CutActs answer alike, no argument is written, the answer owns its memory; nothing that was in memory is written.
-/
import Derived.Test.YthkfgiilbkjojabRows
import Derived.Test.YthkfgiilbkjojabJoint3
import Derived.Test.YthkfgiilbkjojabJoint12
import Derived.Test.YthkfgiilbkjojabJoint1
import Derived.Test.YthkfgiilbkjojabJoint21
import Derived.Test.YthkfgiilbkjojabJoint24
import Derived.Test.YthkfgiilbkjojabJoint50
import Derived.Deep.RegionWith
import Derived.WalkSmall
import Derived.WalkKit
import Derived.ProofKit
import Derived.OpenShut
import Derived.OpenVars
import Derived.Deep.DeepHandedRow
import Derived.Lib.LaidTab
import Derived.Stop.LaidErr
namespace Go.Proofs.Ythkfgiilbkjojab.fnExactCutActs
open Go.ChangeShapes Go.WideShapes Go.ChangeAt Go.ChangeMaps Go.RowKit

set_option maxRecDepth 1000000 in
set_option maxHeartbeats 8000000 in
theorem walk (ao : Option Addr) (l : List FileD) (cap : Nat) (hl : l.length ≤ maxLen) (hf : FilesFit l) (_hk : KeptFit l) (bo : Option Addr) (acts : List ActD) (bcap : Nat) (hal : acts.length ≤ maxLen) (haf : ActsFit acts) (nn : Int) (_hn : (Lit.int .i64 nn).wf = true) (lo : Option Addr) (zs : List Int) (lcap : Nat) (_hzl : zs.length ≤ maxLen) (_hzf : IntsFit zs) (w : World) (ha : FilesAt w ao l) (hq : ActsAt w bo acts) (hz : IntsAt w lo zs) :
    Calls Try.prog 3 #[.agg #[.slice ao l.length cap], .slice bo acts.length bcap, .int .i64 nn, .slice lo zs.length lcap] w fun e w' => e = .returned (.bool true) ∧ Below w.heap.size w w' := by
  have HA := hid ha
  have HQ := hid hq
  have HZ := hid hz
  have X_disk := (show Hid (BlockIs (w.alloc (.cells #[.slice ao l.length cap] 24)) w.heap.size 24 [.slice ao l.length cap]) from heap_alloc_new w _)
  have HB := hid (below_more (Below.refl w.heap.size w) (.cells #[.slice ao l.length cap] 24))
  have O0 := hid X_disk.out.lt
  clear ha hq hz
  by_cases hbig : (1048576 : Int) < (zs.length : Int)
  · go_enter Try.func3, Try.ntmps3
    go_wp2
    go_ret
    exact ⟨rfl, HB.out⟩
  have hzl2 : zs.length ≤ 1048576 := by omega
  go_enter Try.func3, Try.ntmps3
  go_wp2_with fail
  refine (szDisk_any ao l cap 1048576 (by omega) (by omega) hl hf _ (HA.out.on HB.out)).mono ?_
  rintro e w1 ⟨hor, b1⟩
  have O1 := hid b1.size
  have X_disk_1 := hid (X_disk.out.on b1 X_disk.out.lt)
  have B_1 := hid (below_via HB.out b1)
  clear b1 X_disk HB
  have cX_disk0_1 := X_disk_1.out.cell (j := 0) rfl
  rcases hor with ⟨hneg, rfl⟩ | ⟨hnn, rfl⟩
  · go_wp2
    go_ret
    exact ⟨rfl, B_1.out⟩
  have hl2 := (filesSmall hnn).1
  have HSM := hid (filesSmall hnn).2
  go_wp2_with fail
  refine (szActS_any bo acts bcap (1048576 - l.length - fileBulk l) (by omega) (by have := fileBulk_nonneg l; omega) hal haf _ (HQ.out.on B_1.out)).mono ?_
  rintro e w2 ⟨hor, b2⟩
  have O2 := hid b2.size
  have X_disk_2 := hid (X_disk_1.out.on b2 X_disk_1.out.lt)
  have B_2 := hid (below_via B_1.out b2)
  clear b2 X_disk_1 B_1 cX_disk0_1
  have cX_disk0_2 := X_disk_2.out.cell (j := 0) rfl
  rcases hor with ⟨hneg, rfl⟩ | ⟨hnn2, rfl⟩
  · go_wp2
    go_ret
    exact ⟨rfl, B_2.out⟩
  have hal2 := (actsSmall hnn hnn2).1
  have ham := (actsSmall hnn hnn2).2
  have HAM := hid ham
  clear ham
  clear hf hl
  obtain ⟨A, ok, hF⟩ : ∃ A ok, cutAns l acts nn zs = (A, ok) := ⟨_, _, rfl⟩
  have hA2 : A.length ≤ 1048576 := by have := cutAns_small (acts := acts) (nn := nn) (zs := zs) hl2; rw [hF] at this; exact this
  go_wp2_with fail
  refine (toDisk_o ao l cap hl2 _ (HA.out.on B_2.out)).mono ?_
  rintro e w3 ⟨v3, c3, rfl, h3, b3⟩
  have O3 := hid b3.size
  have Y3 := hid h3
  clear h3
  have X_disk_3 := hid (X_disk_2.out.on b3 X_disk_2.out.lt)
  have B_3 := hid (below_via B_2.out b3)
  clear b3 X_disk_2 B_2 cX_disk0_2
  have cX_disk0_3 := X_disk_3.out.cell (j := 0) rfl
  go_wp2_with fail
  refine (toActS_o bo acts bcap hal2 _ (HQ.out.on B_3.out)).mono ?_
  rintro e w4 ⟨g4, rfl, hlo4, hhi4, h4, b4⟩
  have O4 := hid b4.size
  have Y4 := hid h4
  clear h4
  have X_disk_4 := hid (X_disk_3.out.on b4 X_disk_3.out.lt)
  have B_4 := hid (below_via B_3.out b4)
  have Y3_4 := hid (Y3.out.on b4)
  clear b4 X_disk_3 B_3 Y3 cX_disk0_3
  have cX_disk0_4 := X_disk_4.out.cell (j := 0) rfl
  go_wp2_with fail
  refine (toIntS_o lo zs lcap hzl2 _ (HZ.out.on B_4.out)).mono ?_
  rintro e w5 ⟨g5, rfl, hlo5, hhi5, h5, b5⟩
  have O5 := hid b5.size
  have Y5 := hid h5
  clear h5
  have X_disk_5 := hid (X_disk_4.out.on b5 X_disk_4.out.lt)
  have B_5 := hid (below_via B_4.out b5)
  have Y3_5 := hid (Y3_4.out.on b5)
  have Y4_5 := hid (Y4.out.on b5 Y4.out.lt)
  clear b5 X_disk_4 B_4 Y3_4 Y4 cX_disk0_4
  have cX_disk0_5 := X_disk_5.out.cell (j := 0) rfl
  have CQ := hid (specCutActs_o _ l c3 _ acts acts.length nn _ zs zs.length hl2 HSM.out hal2 HAM.out (Nat.le_refl _) hzl2 _ Y3_5.out.files (acts_of Y4_5.out) (ints_of Y5.out))
  rw [hF] at CQ
  dsimp only at CQ
  go_wp2_with fail
  refine Calls.mono CQ.out ?_
  rintro e w6 ⟨v6, c6, rfl, h6, b6⟩
  have O6 := hid b6.size
  have R_w := hid h6
  clear h6 CQ
  have X_disk_6 := hid (X_disk_5.out.on b6 X_disk_5.out.lt)
  have B_6 := hid (below_via B_5.out b6)
  have Y3_6 := hid (Y3_5.out.on b6)
  have Y4_6 := hid (Y4_5.out.on b6 Y4_5.out.lt)
  have Y5_6 := hid (Y5.out.on b6 Y5.out.lt)
  clear b6 X_disk_5 B_5 Y3_5 Y4_5 Y5 cX_disk0_5
  have cX_disk0_6 := X_disk_6.out.cell (j := 0) rfl
  clear Y3_6
  clear Y4_6
  clear Y5_6
  have ba := below_more (Below.refl w6.heap.size w6) (.cells #[.slice v6 A.length c6] 31)
  have hx : BlockIs (w6.alloc (.cells #[.slice v6 A.length c6] 31)) w6.heap.size 31 [.slice v6 A.length c6] := heap_alloc_new w6 _
  have X_disk_6a := hid (X_disk_6.out.on ba X_disk_6.out.lt)
  have B_6a := hid (below_via B_6.out ba)
  have R_w_6a := hid (R_w.out.on ba)
  have X_w_6a := hid hx
  have O6a := hid hx.lt
  clear ba hx X_disk_6 B_6 R_w
  have cX_disk0_6a := X_disk_6a.out.cell (j := 0) rfl
  have cX_w0_6a := X_w_6a.out.cell (j := 0) rfl
  go_wp2_with fail
  refine (toDisk_o ao l cap hl2 _ (HA.out.on B_6a.out)).mono ?_
  rintro e w7 ⟨v7, c7, rfl, h7, b7⟩
  have O7 := hid b7.size
  have Y7 := hid h7
  clear h7
  have X_disk_7 := hid (X_disk_6a.out.on b7 X_disk_6a.out.lt)
  have B_7 := hid (below_via B_6a.out b7)
  have R_w_7 := hid (R_w_6a.out.on b7)
  have X_w_7 := hid (X_w_6a.out.on b7 X_w_6a.out.lt)
  clear b7 X_disk_6a B_6a R_w_6a X_w_6a cX_disk0_6a cX_w0_6a cX_disk0_6
  have cX_disk0_7 := X_disk_7.out.cell (j := 0) rfl
  have cX_w0_7 := X_w_7.out.cell (j := 0) rfl
  have ba := below_more (Below.refl w7.heap.size w7) (.cells #[.slice v7 l.length c7] 31)
  have hx : BlockIs (w7.alloc (.cells #[.slice v7 l.length c7] 31)) w7.heap.size 31 [.slice v7 l.length c7] := heap_alloc_new w7 _
  have X_disk_7a := hid (X_disk_7.out.on ba X_disk_7.out.lt)
  have B_7a := hid (below_via B_7.out ba)
  have R_w_7a := hid (R_w_7.out.on ba)
  have X_w_7a := hid (X_w_7.out.on ba X_w_7.out.lt)
  have Y7_7a := hid (Y7.out.on ba)
  have X_x_7a := hid hx
  have O7a := hid hx.lt
  clear ba hx X_disk_7 B_7 R_w_7 X_w_7 Y7
  have cX_disk0_7a := X_disk_7a.out.cell (j := 0) rfl
  have cX_w0_7a := X_w_7a.out.cell (j := 0) rfl
  have cX_x0_7a := X_x_7a.out.cell (j := 0) rfl
  go_wp2_with fail
  refine (toActS_o bo acts bcap hal2 _ (HQ.out.on B_7a.out)).mono ?_
  rintro e w8 ⟨g8, rfl, hlo8, hhi8, h8, b8⟩
  have O8 := hid b8.size
  have Y8 := hid h8
  clear h8
  have X_disk_8 := hid (X_disk_7a.out.on b8 X_disk_7a.out.lt)
  have B_8 := hid (below_via B_7a.out b8)
  have R_w_8 := hid (R_w_7a.out.on b8)
  have X_w_8 := hid (X_w_7a.out.on b8 X_w_7a.out.lt)
  have Y7_8 := hid (Y7_7a.out.on b8)
  have X_x_8 := hid (X_x_7a.out.on b8 X_x_7a.out.lt)
  clear b8 X_disk_7a B_7a R_w_7a X_w_7a Y7_7a X_x_7a cX_disk0_7a cX_w0_7a cX_x0_7a cX_disk0_7 cX_w0_7
  have cX_disk0_8 := X_disk_8.out.cell (j := 0) rfl
  have cX_w0_8 := X_w_8.out.cell (j := 0) rfl
  have cX_x0_8 := X_x_8.out.cell (j := 0) rfl
  go_wp2_with fail
  refine (toIntS_o lo zs lcap hzl2 _ (HZ.out.on B_8.out)).mono ?_
  rintro e w9 ⟨g9, rfl, hlo9, hhi9, h9, b9⟩
  have O9 := hid b9.size
  have Y9 := hid h9
  clear h9
  have X_disk_9 := hid (X_disk_8.out.on b9 X_disk_8.out.lt)
  have B_9 := hid (below_via B_8.out b9)
  have R_w_9 := hid (R_w_8.out.on b9)
  have X_w_9 := hid (X_w_8.out.on b9 X_w_8.out.lt)
  have Y7_9 := hid (Y7_8.out.on b9)
  have X_x_9 := hid (X_x_8.out.on b9 X_x_8.out.lt)
  have Y8_9 := hid (Y8.out.on b9 Y8.out.lt)
  clear b9 X_disk_8 B_8 R_w_8 X_w_8 Y7_8 X_x_8 Y8 cX_disk0_8 cX_w0_8 cX_x0_8
  have cX_disk0_9 := X_disk_9.out.cell (j := 0) rfl
  have cX_w0_9 := X_w_9.out.cell (j := 0) rfl
  have cX_x0_9 := X_x_9.out.cell (j := 0) rfl
  have CQ := hid (implCutActs_o _ l c7 _ acts acts.length nn _ zs zs.length hl2 HSM.out hal2 HAM.out (Nat.le_refl _) hzl2 _ Y7_9.out.files (acts_of Y8_9.out) (ints_of Y9.out))
  rw [hF] at CQ
  dsimp only at CQ
  go_wp2_with fail
  refine Calls.mono CQ.out ?_
  rintro e w10 ⟨v10, c10, rfl, h10, b10⟩
  have O10 := hid b10.size
  have R_g := hid h10
  clear h10 CQ
  have X_disk_10 := hid (X_disk_9.out.on b10 X_disk_9.out.lt)
  have B_10 := hid (below_via B_9.out b10)
  have R_w_10 := hid (R_w_9.out.on b10)
  have X_w_10 := hid (X_w_9.out.on b10 X_w_9.out.lt)
  have Y7_10 := hid (Y7_9.out.on b10)
  have X_x_10 := hid (X_x_9.out.on b10 X_x_9.out.lt)
  have Y8_10 := hid (Y8_9.out.on b10 Y8_9.out.lt)
  have Y9_10 := hid (Y9.out.on b10 Y9.out.lt)
  clear b10 X_disk_9 B_9 R_w_9 X_w_9 Y7_9 X_x_9 Y8_9 Y9 cX_disk0_9 cX_w0_9 cX_x0_9
  have cX_disk0_10 := X_disk_10.out.cell (j := 0) rfl
  have cX_w0_10 := X_w_10.out.cell (j := 0) rfl
  have cX_x0_10 := X_x_10.out.cell (j := 0) rfl
  have ba := below_more (Below.refl w10.heap.size w10) (.cells #[.slice v10 A.length c10] 31)
  have hx : BlockIs (w10.alloc (.cells #[.slice v10 A.length c10] 31)) w10.heap.size 31 [.slice v10 A.length c10] := heap_alloc_new w10 _
  have X_disk_10a := hid (X_disk_10.out.on ba X_disk_10.out.lt)
  have B_10a := hid (below_via B_10.out ba)
  have R_w_10a := hid (R_w_10.out.on ba)
  have X_w_10a := hid (X_w_10.out.on ba X_w_10.out.lt)
  have Y7_10a := hid (Y7_10.out.on ba)
  have X_x_10a := hid (X_x_10.out.on ba X_x_10.out.lt)
  have Y8_10a := hid (Y8_10.out.on ba Y8_10.out.lt)
  have Y9_10a := hid (Y9_10.out.on ba Y9_10.out.lt)
  have R_g_10a := hid (R_g.out.on ba)
  have X_g_10a := hid hx
  have O10a := hid hx.lt
  clear ba hx X_disk_10 B_10 R_w_10 X_w_10 Y7_10 X_x_10 Y8_10 Y9_10 R_g
  have cX_disk0_10a := X_disk_10a.out.cell (j := 0) rfl
  have cX_w0_10a := X_w_10a.out.cell (j := 0) rfl
  have cX_x0_10a := X_x_10a.out.cell (j := 0) rfl
  have cX_g0_10a := X_g_10a.out.cell (j := 0) rfl
  go_wp2_with fail
  refine (eqDisk_o v10 v6 A c10 c6 hA2 _ (R_g_10a.out.files) (R_w_10a.out.files)).mono ?_
  rintro e w11 ⟨rfl, b11⟩
  have O11 := hid b11.size
  have X_disk_11 := hid (X_disk_10a.out.on b11 X_disk_10a.out.lt)
  have B_11 := hid (below_via B_10a.out b11)
  have R_w_11 := hid (R_w_10a.out.on b11)
  have X_w_11 := hid (X_w_10a.out.on b11 X_w_10a.out.lt)
  have Y7_11 := hid (Y7_10a.out.on b11)
  have X_x_11 := hid (X_x_10a.out.on b11 X_x_10a.out.lt)
  have Y8_11 := hid (Y8_10a.out.on b11 Y8_10a.out.lt)
  have Y9_11 := hid (Y9_10a.out.on b11 Y9_10a.out.lt)
  have R_g_11 := hid (R_g_10a.out.on b11)
  have X_g_11 := hid (X_g_10a.out.on b11 X_g_10a.out.lt)
  clear b11 X_disk_10a B_10a R_w_10a X_w_10a Y7_10a X_x_10a Y8_10a Y9_10a R_g_10a X_g_10a cX_disk0_10a cX_w0_10a cX_x0_10a cX_g0_10a cX_disk0_10 cX_w0_10 cX_x0_10
  have cX_disk0_11 := X_disk_11.out.cell (j := 0) rfl
  have cX_w0_11 := X_w_11.out.cell (j := 0) rfl
  have cX_x0_11 := X_x_11.out.cell (j := 0) rfl
  have cX_g0_11 := X_g_11.out.cell (j := 0) rfl
  have CT : Hid (Calls Try.prog 8 #[.agg #[.slice ao l.length cap]] w11.drew fun e w12 => ∃ v12 c12, e = .returned (.agg #[.slice v12 l.length c12]) ∧ w12.cell? ⟨w7.heap.size, 0, none⟩ = some (.slice v7 l.length c7) ∧ Hid (Below w11.heap.size w11 w12 ∧ FilesAt w12 v12 l)) := by
    have hd : Below w11.heap.size w11 w11.drew := below_drewN (Below.refl w11.heap.size w11) 1
    refine Calls.mono (toDisk_o ao l cap hl2 w11.drew (HA.out.on (below_via B_11.out hd))) ?_
    rintro e w12 ⟨v12, c12, rfl, h12, b12⟩
    have h67 := below_via hd b12
    exact ⟨v12, c12, rfl, (X_x_11.out.on h67 X_x_11.out.lt).cell (j := 0) rfl, h67, h12.files⟩
  go_wp2
  go_region_with (first | (go_at_call 8; refine Calls.mono CT.out ?_; rintro e w12 ⟨v12, c12, rfl, y12, H12⟩) | (go_at_call 12; refine (eqDisk_o _ _ l _ _ hl2 _ ((Y7_11.out.on H12.out.1).files) H12.out.2).mono ?_; rintro e w13 ⟨rfl, b13⟩))
  all_goals
    have bb := below_via H12.out.1 b13
    have O13 := hid bb.size
    have X_disk_13 := hid (X_disk_11.out.on bb X_disk_11.out.lt)
    have B_13 := hid (below_via B_11.out bb)
    have R_w_13 := hid (R_w_11.out.on bb)
    have X_w_13 := hid (X_w_11.out.on bb X_w_11.out.lt)
    have Y7_13 := hid (Y7_11.out.on bb)
    have X_x_13 := hid (X_x_11.out.on bb X_x_11.out.lt)
    have Y8_13 := hid (Y8_11.out.on bb Y8_11.out.lt)
    have Y9_13 := hid (Y9_11.out.on bb Y9_11.out.lt)
    have R_g_13 := hid (R_g_11.out.on bb)
    have X_g_13 := hid (X_g_11.out.on bb X_g_11.out.lt)
    clear bb b13 H12 CT y12 X_disk_11 B_11 R_w_11 X_w_11 Y7_11 X_x_11 Y8_11 Y9_11 R_g_11 X_g_11 cX_disk0_11 cX_w0_11 cX_x0_11 cX_g0_11
    have cX_disk0_13 := X_disk_13.out.cell (j := 0) rfl
    have cX_w0_13 := X_w_13.out.cell (j := 0) rfl
    have cX_x0_13 := X_x_13.out.cell (j := 0) rfl
    have cX_g0_13 := X_g_13.out.cell (j := 0) rfl
    go_wp2_with fail
    refine (toActS_o bo acts bcap hal2 _ (HQ.out.on B_13.out)).mono ?_
    rintro e w14 ⟨g14, rfl, hlo14, hhi14, h14, b14⟩
    have O14 := hid b14.size
    have Y14 := hid h14
    clear h14
    have X_disk_14 := hid (X_disk_13.out.on b14 X_disk_13.out.lt)
    have B_14 := hid (below_via B_13.out b14)
    have R_w_14 := hid (R_w_13.out.on b14)
    have X_w_14 := hid (X_w_13.out.on b14 X_w_13.out.lt)
    have Y7_14 := hid (Y7_13.out.on b14)
    have X_x_14 := hid (X_x_13.out.on b14 X_x_13.out.lt)
    have Y8_14 := hid (Y8_13.out.on b14 Y8_13.out.lt)
    have Y9_14 := hid (Y9_13.out.on b14 Y9_13.out.lt)
    have R_g_14 := hid (R_g_13.out.on b14)
    have X_g_14 := hid (X_g_13.out.on b14 X_g_13.out.lt)
    clear b14 X_disk_13 B_13 R_w_13 X_w_13 Y7_13 X_x_13 Y8_13 Y9_13 R_g_13 X_g_13 cX_disk0_13 cX_w0_13 cX_x0_13 cX_g0_13
    have cX_disk0_14 := X_disk_14.out.cell (j := 0) rfl
    have cX_w0_14 := X_w_14.out.cell (j := 0) rfl
    have cX_x0_14 := X_x_14.out.cell (j := 0) rfl
    have cX_g0_14 := X_g_14.out.cell (j := 0) rfl
    go_wp2_with fail
    refine (eqActS_same _ _ acts _ _ (by omega) _ (acts_of Y8_14.out) (acts_of Y14.out)).mono ?_
    rintro e w15 ⟨rfl, b15⟩
    have O15 := hid b15.size
    have X_disk_15 := hid (X_disk_14.out.on b15 X_disk_14.out.lt)
    have B_15 := hid (below_via B_14.out b15)
    have R_w_15 := hid (R_w_14.out.on b15)
    have X_w_15 := hid (X_w_14.out.on b15 X_w_14.out.lt)
    have Y7_15 := hid (Y7_14.out.on b15)
    have X_x_15 := hid (X_x_14.out.on b15 X_x_14.out.lt)
    have Y8_15 := hid (Y8_14.out.on b15 Y8_14.out.lt)
    have Y9_15 := hid (Y9_14.out.on b15 Y9_14.out.lt)
    have R_g_15 := hid (R_g_14.out.on b15)
    have X_g_15 := hid (X_g_14.out.on b15 X_g_14.out.lt)
    have Y14_15 := hid (Y14.out.on b15 Y14.out.lt)
    clear b15 X_disk_14 B_14 R_w_14 X_w_14 Y7_14 X_x_14 Y8_14 Y9_14 R_g_14 X_g_14 Y14 cX_disk0_14 cX_w0_14 cX_x0_14 cX_g0_14
    have cX_disk0_15 := X_disk_15.out.cell (j := 0) rfl
    have cX_w0_15 := X_w_15.out.cell (j := 0) rfl
    have cX_x0_15 := X_x_15.out.cell (j := 0) rfl
    have cX_g0_15 := X_g_15.out.cell (j := 0) rfl
    clear Y14_15
    go_wp2_with fail
    refine (toIntS_o lo zs lcap hzl2 _ (HZ.out.on B_15.out)).mono ?_
    rintro e w16 ⟨g16, rfl, hlo16, hhi16, h16, b16⟩
    have O16 := hid b16.size
    have Y16 := hid h16
    clear h16
    have X_disk_16 := hid (X_disk_15.out.on b16 X_disk_15.out.lt)
    have B_16 := hid (below_via B_15.out b16)
    have R_w_16 := hid (R_w_15.out.on b16)
    have X_w_16 := hid (X_w_15.out.on b16 X_w_15.out.lt)
    have Y7_16 := hid (Y7_15.out.on b16)
    have X_x_16 := hid (X_x_15.out.on b16 X_x_15.out.lt)
    have Y8_16 := hid (Y8_15.out.on b16 Y8_15.out.lt)
    have Y9_16 := hid (Y9_15.out.on b16 Y9_15.out.lt)
    have R_g_16 := hid (R_g_15.out.on b16)
    have X_g_16 := hid (X_g_15.out.on b16 X_g_15.out.lt)
    clear b16 X_disk_15 B_15 R_w_15 X_w_15 Y7_15 X_x_15 Y8_15 Y9_15 R_g_15 X_g_15 cX_disk0_15 cX_w0_15 cX_x0_15 cX_g0_15
    have cX_disk0_16 := X_disk_16.out.cell (j := 0) rfl
    have cX_w0_16 := X_w_16.out.cell (j := 0) rfl
    have cX_x0_16 := X_x_16.out.cell (j := 0) rfl
    have cX_g0_16 := X_g_16.out.cell (j := 0) rfl
    go_wp2_with fail
    refine (eqIntS_same _ _ zs _ _ (by omega) _ (ints_of Y9_16.out) (ints_of Y16.out)).mono ?_
    rintro e w17 ⟨rfl, b17⟩
    have O17 := hid b17.size
    have X_disk_17 := hid (X_disk_16.out.on b17 X_disk_16.out.lt)
    have B_17 := hid (below_via B_16.out b17)
    have R_w_17 := hid (R_w_16.out.on b17)
    have X_w_17 := hid (X_w_16.out.on b17 X_w_16.out.lt)
    have Y7_17 := hid (Y7_16.out.on b17)
    have X_x_17 := hid (X_x_16.out.on b17 X_x_16.out.lt)
    have Y8_17 := hid (Y8_16.out.on b17 Y8_16.out.lt)
    have Y9_17 := hid (Y9_16.out.on b17 Y9_16.out.lt)
    have R_g_17 := hid (R_g_16.out.on b17)
    have X_g_17 := hid (X_g_16.out.on b17 X_g_16.out.lt)
    have Y16_17 := hid (Y16.out.on b17 Y16.out.lt)
    clear b17 X_disk_16 B_16 R_w_16 X_w_16 Y7_16 X_x_16 Y8_16 Y9_16 R_g_16 X_g_16 Y16 cX_disk0_16 cX_w0_16 cX_x0_16 cX_g0_16
    have cX_disk0_17 := X_disk_17.out.cell (j := 0) rfl
    have cX_w0_17 := X_w_17.out.cell (j := 0) rfl
    have cX_x0_17 := X_x_17.out.cell (j := 0) rfl
    have cX_g0_17 := X_g_17.out.cell (j := 0) rfl
    clear Y16_17
    go_wp2_with fail
    refine (markDisk_o (1) v7 c7 l ((w6.alloc (.cells #[.slice v6 A.length c6] 31)).heap.size) (w7.heap.size) (by omega) (by omega) _ (by have := O0.out; have := O1.out; have := O2.out; have := O3.out; have := O4.out; have := O5.out; have := O6.out; have := O6a.out; have := O7.out; have := O7a.out; have := O8.out; have := O9.out; have := O10.out; have := O10a.out; have := O11.out; have := O13.out; have := O14.out; have := O15.out; have := O16.out; have := O17.out; omega) Y7_17.out).mono ?_
    rintro e w18 ⟨rfl, hm18, kp, b18⟩
    have O18 := hid b18.size
    have X_disk_18 := hid (X_disk_17.out.kept kp (by have := O0.out; have := O1.out; have := O2.out; have := O3.out; have := O4.out; have := O5.out; have := O6.out; have := O6a.out; have := O7.out; have := O7a.out; have := O8.out; have := O9.out; have := O10.out; have := O10a.out; have := O11.out; have := O13.out; have := O14.out; have := O15.out; have := O16.out; have := O17.out; have := O18.out; omega))
    have B_18 := hid (B_17.out.trans (b18.mono (by have := O0.out; have := O1.out; have := O2.out; have := O3.out; have := O4.out; have := O5.out; have := O6.out; have := O6a.out; have := O7.out; have := O7a.out; have := O8.out; have := O9.out; have := O10.out; have := O10a.out; have := O11.out; have := O13.out; have := O14.out; have := O15.out; have := O16.out; have := O17.out; have := O18.out; omega)))
    have R_w_18 := hid (R_w_17.out.kept kp (by have := O0.out; have := O1.out; have := O2.out; have := O3.out; have := O4.out; have := O5.out; have := O6.out; have := O6a.out; have := O7.out; have := O7a.out; have := O8.out; have := O9.out; have := O10.out; have := O10a.out; have := O11.out; have := O13.out; have := O14.out; have := O15.out; have := O16.out; have := O17.out; have := O18.out; omega))
    have X_w_18 := hid (X_w_17.out.kept kp (by have := O0.out; have := O1.out; have := O2.out; have := O3.out; have := O4.out; have := O5.out; have := O6.out; have := O6a.out; have := O7.out; have := O7a.out; have := O8.out; have := O9.out; have := O10.out; have := O10a.out; have := O11.out; have := O13.out; have := O14.out; have := O15.out; have := O16.out; have := O17.out; have := O18.out; omega))
    have X_x_18 := hid (X_x_17.out.kept kp (by have := O0.out; have := O1.out; have := O2.out; have := O3.out; have := O4.out; have := O5.out; have := O6.out; have := O6a.out; have := O7.out; have := O7a.out; have := O8.out; have := O9.out; have := O10.out; have := O10a.out; have := O11.out; have := O13.out; have := O14.out; have := O15.out; have := O16.out; have := O17.out; have := O18.out; omega))
    have Y8_18 := hid (Y8_17.out.kept kp (by have := O0.out; have := O1.out; have := O2.out; have := O3.out; have := O4.out; have := O5.out; have := O6.out; have := O6a.out; have := O7.out; have := O7a.out; have := O8.out; have := O9.out; have := O10.out; have := O10a.out; have := O11.out; have := O13.out; have := O14.out; have := O15.out; have := O16.out; have := O17.out; have := O18.out; omega))
    have Y9_18 := hid (Y9_17.out.kept kp (by have := O0.out; have := O1.out; have := O2.out; have := O3.out; have := O4.out; have := O5.out; have := O6.out; have := O6a.out; have := O7.out; have := O7a.out; have := O8.out; have := O9.out; have := O10.out; have := O10a.out; have := O11.out; have := O13.out; have := O14.out; have := O15.out; have := O16.out; have := O17.out; have := O18.out; omega))
    have R_g_18 := hid (R_g_17.out.kept kp (by have := O0.out; have := O1.out; have := O2.out; have := O3.out; have := O4.out; have := O5.out; have := O6.out; have := O6a.out; have := O7.out; have := O7a.out; have := O8.out; have := O9.out; have := O10.out; have := O10a.out; have := O11.out; have := O13.out; have := O14.out; have := O15.out; have := O16.out; have := O17.out; have := O18.out; omega))
    have X_g_18 := hid (X_g_17.out.kept kp (by have := O0.out; have := O1.out; have := O2.out; have := O3.out; have := O4.out; have := O5.out; have := O6.out; have := O6a.out; have := O7.out; have := O7a.out; have := O8.out; have := O9.out; have := O10.out; have := O10a.out; have := O11.out; have := O13.out; have := O14.out; have := O15.out; have := O16.out; have := O17.out; have := O18.out; omega))
    clear kp b18 Y7_17 X_disk_17 B_17 R_w_17 X_w_17 X_x_17 Y8_17 Y9_17 R_g_17 X_g_17 cX_disk0_17 cX_w0_17 cX_x0_17 cX_g0_17
    have cX_disk0_18 := X_disk_18.out.cell (j := 0) rfl
    have cX_w0_18 := X_w_18.out.cell (j := 0) rfl
    have cX_x0_18 := X_x_18.out.cell (j := 0) rfl
    have cX_g0_18 := X_g_18.out.cell (j := 0) rfl
    clear hm18
    go_wp2_with fail
    refine (markActS_o g8 acts _ (1 + 3 * l.length) (by omega) hal2 _ Y8_18.out).mono ?_
    rintro e w19 ⟨rfl, kp, b19⟩
    have O19 := hid b19.size
    have X_disk_19 := hid (X_disk_18.out.kept kp (by have := O0.out; have := O1.out; have := O2.out; have := O3.out; have := O4.out; have := O5.out; have := O6.out; have := O6a.out; have := O7.out; have := O7a.out; have := O8.out; have := O9.out; have := O10.out; have := O10a.out; have := O11.out; have := O13.out; have := O14.out; have := O15.out; have := O16.out; have := O17.out; have := O18.out; have := O19.out; omega))
    have B_19 := hid (B_18.out.trans (b19.mono (by have := O0.out; have := O1.out; have := O2.out; have := O3.out; have := O4.out; have := O5.out; have := O6.out; have := O6a.out; have := O7.out; have := O7a.out; have := O8.out; have := O9.out; have := O10.out; have := O10a.out; have := O11.out; have := O13.out; have := O14.out; have := O15.out; have := O16.out; have := O17.out; have := O18.out; have := O19.out; omega)))
    have R_w_19 := hid (R_w_18.out.kept kp (by have := O0.out; have := O1.out; have := O2.out; have := O3.out; have := O4.out; have := O5.out; have := O6.out; have := O6a.out; have := O7.out; have := O7a.out; have := O8.out; have := O9.out; have := O10.out; have := O10a.out; have := O11.out; have := O13.out; have := O14.out; have := O15.out; have := O16.out; have := O17.out; have := O18.out; have := O19.out; omega))
    have X_w_19 := hid (X_w_18.out.kept kp (by have := O0.out; have := O1.out; have := O2.out; have := O3.out; have := O4.out; have := O5.out; have := O6.out; have := O6a.out; have := O7.out; have := O7a.out; have := O8.out; have := O9.out; have := O10.out; have := O10a.out; have := O11.out; have := O13.out; have := O14.out; have := O15.out; have := O16.out; have := O17.out; have := O18.out; have := O19.out; omega))
    have X_x_19 := hid (X_x_18.out.kept kp (by have := O0.out; have := O1.out; have := O2.out; have := O3.out; have := O4.out; have := O5.out; have := O6.out; have := O6a.out; have := O7.out; have := O7a.out; have := O8.out; have := O9.out; have := O10.out; have := O10a.out; have := O11.out; have := O13.out; have := O14.out; have := O15.out; have := O16.out; have := O17.out; have := O18.out; have := O19.out; omega))
    have Y9_19 := hid (Y9_18.out.kept kp (by have := O0.out; have := O1.out; have := O2.out; have := O3.out; have := O4.out; have := O5.out; have := O6.out; have := O6a.out; have := O7.out; have := O7a.out; have := O8.out; have := O9.out; have := O10.out; have := O10a.out; have := O11.out; have := O13.out; have := O14.out; have := O15.out; have := O16.out; have := O17.out; have := O18.out; have := O19.out; omega))
    have R_g_19 := hid (R_g_18.out.kept kp (by have := O0.out; have := O1.out; have := O2.out; have := O3.out; have := O4.out; have := O5.out; have := O6.out; have := O6a.out; have := O7.out; have := O7a.out; have := O8.out; have := O9.out; have := O10.out; have := O10a.out; have := O11.out; have := O13.out; have := O14.out; have := O15.out; have := O16.out; have := O17.out; have := O18.out; have := O19.out; omega))
    have X_g_19 := hid (X_g_18.out.kept kp (by have := O0.out; have := O1.out; have := O2.out; have := O3.out; have := O4.out; have := O5.out; have := O6.out; have := O6a.out; have := O7.out; have := O7a.out; have := O8.out; have := O9.out; have := O10.out; have := O10a.out; have := O11.out; have := O13.out; have := O14.out; have := O15.out; have := O16.out; have := O17.out; have := O18.out; have := O19.out; omega))
    clear kp b19 Y8_18 X_disk_18 B_18 R_w_18 X_w_18 X_x_18 Y9_18 R_g_18 X_g_18 cX_disk0_18 cX_w0_18 cX_x0_18 cX_g0_18
    have cX_disk0_19 := X_disk_19.out.cell (j := 0) rfl
    have cX_w0_19 := X_w_19.out.cell (j := 0) rfl
    have cX_x0_19 := X_x_19.out.cell (j := 0) rfl
    have cX_g0_19 := X_g_19.out.cell (j := 0) rfl
    go_wp2_with fail
    refine (markIntS_o g9 zs _ (1 + 3 * l.length + 4 * acts.length) (by omega) hzl2 _ Y9_19.out).mono ?_
    rintro e w20 ⟨rfl, kp, b20⟩
    have O20 := hid b20.size
    have X_disk_20 := hid (X_disk_19.out.kept kp (by have := O0.out; have := O1.out; have := O2.out; have := O3.out; have := O4.out; have := O5.out; have := O6.out; have := O6a.out; have := O7.out; have := O7a.out; have := O8.out; have := O9.out; have := O10.out; have := O10a.out; have := O11.out; have := O13.out; have := O14.out; have := O15.out; have := O16.out; have := O17.out; have := O18.out; have := O19.out; have := O20.out; omega))
    have B_20 := hid (B_19.out.trans (b20.mono (by have := O0.out; have := O1.out; have := O2.out; have := O3.out; have := O4.out; have := O5.out; have := O6.out; have := O6a.out; have := O7.out; have := O7a.out; have := O8.out; have := O9.out; have := O10.out; have := O10a.out; have := O11.out; have := O13.out; have := O14.out; have := O15.out; have := O16.out; have := O17.out; have := O18.out; have := O19.out; have := O20.out; omega)))
    have R_w_20 := hid (R_w_19.out.kept kp (by have := O0.out; have := O1.out; have := O2.out; have := O3.out; have := O4.out; have := O5.out; have := O6.out; have := O6a.out; have := O7.out; have := O7a.out; have := O8.out; have := O9.out; have := O10.out; have := O10a.out; have := O11.out; have := O13.out; have := O14.out; have := O15.out; have := O16.out; have := O17.out; have := O18.out; have := O19.out; have := O20.out; omega))
    have X_w_20 := hid (X_w_19.out.kept kp (by have := O0.out; have := O1.out; have := O2.out; have := O3.out; have := O4.out; have := O5.out; have := O6.out; have := O6a.out; have := O7.out; have := O7a.out; have := O8.out; have := O9.out; have := O10.out; have := O10a.out; have := O11.out; have := O13.out; have := O14.out; have := O15.out; have := O16.out; have := O17.out; have := O18.out; have := O19.out; have := O20.out; omega))
    have X_x_20 := hid (X_x_19.out.kept kp (by have := O0.out; have := O1.out; have := O2.out; have := O3.out; have := O4.out; have := O5.out; have := O6.out; have := O6a.out; have := O7.out; have := O7a.out; have := O8.out; have := O9.out; have := O10.out; have := O10a.out; have := O11.out; have := O13.out; have := O14.out; have := O15.out; have := O16.out; have := O17.out; have := O18.out; have := O19.out; have := O20.out; omega))
    have R_g_20 := hid (R_g_19.out.kept kp (by have := O0.out; have := O1.out; have := O2.out; have := O3.out; have := O4.out; have := O5.out; have := O6.out; have := O6a.out; have := O7.out; have := O7a.out; have := O8.out; have := O9.out; have := O10.out; have := O10a.out; have := O11.out; have := O13.out; have := O14.out; have := O15.out; have := O16.out; have := O17.out; have := O18.out; have := O19.out; have := O20.out; omega))
    have X_g_20 := hid (X_g_19.out.kept kp (by have := O0.out; have := O1.out; have := O2.out; have := O3.out; have := O4.out; have := O5.out; have := O6.out; have := O6a.out; have := O7.out; have := O7a.out; have := O8.out; have := O9.out; have := O10.out; have := O10a.out; have := O11.out; have := O13.out; have := O14.out; have := O15.out; have := O16.out; have := O17.out; have := O18.out; have := O19.out; have := O20.out; omega))
    clear kp b20 Y9_19 X_disk_19 B_19 R_w_19 X_w_19 X_x_19 R_g_19 X_g_19 cX_disk0_19 cX_w0_19 cX_x0_19 cX_g0_19
    have cX_disk0_20 := X_disk_20.out.cell (j := 0) rfl
    have cX_w0_20 := X_w_20.out.cell (j := 0) rfl
    have cX_x0_20 := X_x_20.out.cell (j := 0) rfl
    have cX_g0_20 := X_g_20.out.cell (j := 0) rfl
    go_wp2_with fail
    refine (eqDisk_o v10 v6 A c10 c6 hA2 _ (R_g_20.out.files) (R_w_20.out.files)).mono ?_
    rintro e w21 ⟨rfl, b21⟩
    have O21 := hid b21.size
    have X_disk_21 := hid (X_disk_20.out.on b21 X_disk_20.out.lt)
    have B_21 := hid (below_via B_20.out b21)
    have R_w_21 := hid (R_w_20.out.on b21)
    have X_w_21 := hid (X_w_20.out.on b21 X_w_20.out.lt)
    have X_x_21 := hid (X_x_20.out.on b21 X_x_20.out.lt)
    have R_g_21 := hid (R_g_20.out.on b21)
    have X_g_21 := hid (X_g_20.out.on b21 X_g_20.out.lt)
    clear b21 X_disk_20 B_20 R_w_20 X_w_20 X_x_20 R_g_20 X_g_20 cX_disk0_20 cX_w0_20 cX_x0_20 cX_g0_20
    have cX_disk0_21 := X_disk_21.out.cell (j := 0) rfl
    have cX_w0_21 := X_w_21.out.cell (j := 0) rfl
    have cX_x0_21 := X_x_21.out.cell (j := 0) rfl
    have cX_g0_21 := X_g_21.out.cell (j := 0) rfl
    go_wp2_with fail
    refine (markDisk_o 1 v10 c10 A (w9.heap.size) (w10.heap.size) (by omega) (by omega) _ (by have := O0.out; have := O1.out; have := O2.out; have := O3.out; have := O4.out; have := O5.out; have := O6.out; have := O6a.out; have := O7.out; have := O7a.out; have := O8.out; have := O9.out; have := O10.out; have := O10a.out; have := O11.out; have := O13.out; have := O14.out; have := O15.out; have := O16.out; have := O17.out; have := O18.out; have := O19.out; have := O20.out; have := O21.out; omega) R_g_21.out).mono ?_
    rintro e w22 ⟨rfl, hm22, kp, b22⟩
    have O22 := hid b22.size
    have X_disk_22 := hid (X_disk_21.out.kept kp (by have := O0.out; have := O1.out; have := O2.out; have := O3.out; have := O4.out; have := O5.out; have := O6.out; have := O6a.out; have := O7.out; have := O7a.out; have := O8.out; have := O9.out; have := O10.out; have := O10a.out; have := O11.out; have := O13.out; have := O14.out; have := O15.out; have := O16.out; have := O17.out; have := O18.out; have := O19.out; have := O20.out; have := O21.out; have := O22.out; omega))
    have B_22 := hid (B_21.out.trans (b22.mono (by have := O0.out; have := O1.out; have := O2.out; have := O3.out; have := O4.out; have := O5.out; have := O6.out; have := O6a.out; have := O7.out; have := O7a.out; have := O8.out; have := O9.out; have := O10.out; have := O10a.out; have := O11.out; have := O13.out; have := O14.out; have := O15.out; have := O16.out; have := O17.out; have := O18.out; have := O19.out; have := O20.out; have := O21.out; have := O22.out; omega)))
    have R_w_22 := hid (R_w_21.out.kept kp (by have := O0.out; have := O1.out; have := O2.out; have := O3.out; have := O4.out; have := O5.out; have := O6.out; have := O6a.out; have := O7.out; have := O7a.out; have := O8.out; have := O9.out; have := O10.out; have := O10a.out; have := O11.out; have := O13.out; have := O14.out; have := O15.out; have := O16.out; have := O17.out; have := O18.out; have := O19.out; have := O20.out; have := O21.out; have := O22.out; omega))
    have X_w_22 := hid (X_w_21.out.kept kp (by have := O0.out; have := O1.out; have := O2.out; have := O3.out; have := O4.out; have := O5.out; have := O6.out; have := O6a.out; have := O7.out; have := O7a.out; have := O8.out; have := O9.out; have := O10.out; have := O10a.out; have := O11.out; have := O13.out; have := O14.out; have := O15.out; have := O16.out; have := O17.out; have := O18.out; have := O19.out; have := O20.out; have := O21.out; have := O22.out; omega))
    have X_x_22 := hid (X_x_21.out.kept kp (by have := O0.out; have := O1.out; have := O2.out; have := O3.out; have := O4.out; have := O5.out; have := O6.out; have := O6a.out; have := O7.out; have := O7a.out; have := O8.out; have := O9.out; have := O10.out; have := O10a.out; have := O11.out; have := O13.out; have := O14.out; have := O15.out; have := O16.out; have := O17.out; have := O18.out; have := O19.out; have := O20.out; have := O21.out; have := O22.out; omega))
    have X_g_22 := hid (X_g_21.out.kept kp (by have := O0.out; have := O1.out; have := O2.out; have := O3.out; have := O4.out; have := O5.out; have := O6.out; have := O6a.out; have := O7.out; have := O7a.out; have := O8.out; have := O9.out; have := O10.out; have := O10a.out; have := O11.out; have := O13.out; have := O14.out; have := O15.out; have := O16.out; have := O17.out; have := O18.out; have := O19.out; have := O20.out; have := O21.out; have := O22.out; omega))
    clear kp b22 R_g_21 X_disk_21 B_21 R_w_21 X_w_21 X_x_21 X_g_21 cX_disk0_21 cX_w0_21 cX_x0_21 cX_g0_21
    have cX_disk0_22 := X_disk_22.out.cell (j := 0) rfl
    have cX_w0_22 := X_w_22.out.cell (j := 0) rfl
    have cX_x0_22 := X_x_22.out.cell (j := 0) rfl
    have cX_g0_22 := X_g_22.out.cell (j := 0) rfl
    have M_22 := hid hm22
    clear hm22
    go_wp2_with fail
    refine (heldDisk_any v10 A.length c10 1 (by omega) hA2 _ M_22.out).mono ?_
    rintro e w23 ⟨rfl, b23⟩
    have O23 := hid b23.size
    have X_disk_23 := hid (X_disk_22.out.on b23 X_disk_22.out.lt)
    have B_23 := hid (below_via B_22.out b23)
    have R_w_23 := hid (R_w_22.out.on b23)
    have X_w_23 := hid (X_w_22.out.on b23 X_w_22.out.lt)
    have X_x_23 := hid (X_x_22.out.on b23 X_x_22.out.lt)
    have X_g_23 := hid (X_g_22.out.on b23 X_g_22.out.lt)
    have M_23 := hid (M_22.out.on b23)
    clear b23 X_disk_22 B_22 R_w_22 X_w_22 X_x_22 X_g_22 M_22 cX_disk0_22 cX_w0_22 cX_x0_22 cX_g0_22
    have cX_disk0_23 := X_disk_23.out.cell (j := 0) rfl
    have cX_w0_23 := X_w_23.out.cell (j := 0) rfl
    have cX_x0_23 := X_x_23.out.cell (j := 0) rfl
    have cX_g0_23 := X_g_23.out.cell (j := 0) rfl
    go_wp2_with fail
    refine (toDisk_o ao l cap hl2 _ (HA.out.on B_23.out)).mono ?_
    rintro e w24 ⟨v24, c24, rfl, h24, b24⟩
    have O24 := hid b24.size
    have Y24 := hid h24
    clear h24
    have X_disk_24 := hid (X_disk_23.out.on b24 X_disk_23.out.lt)
    have B_24 := hid (below_via B_23.out b24)
    have R_w_24 := hid (R_w_23.out.on b24)
    have X_w_24 := hid (X_w_23.out.on b24 X_w_23.out.lt)
    have X_x_24 := hid (X_x_23.out.on b24 X_x_23.out.lt)
    have X_g_24 := hid (X_g_23.out.on b24 X_g_23.out.lt)
    have M_24 := hid (M_23.out.on b24)
    clear b24 X_disk_23 B_23 R_w_23 X_w_23 X_x_23 X_g_23 M_23 cX_disk0_23 cX_w0_23 cX_x0_23 cX_g0_23
    have cX_disk0_24 := X_disk_24.out.cell (j := 0) rfl
    have cX_w0_24 := X_w_24.out.cell (j := 0) rfl
    have cX_x0_24 := X_x_24.out.cell (j := 0) rfl
    have cX_g0_24 := X_g_24.out.cell (j := 0) rfl
    go_wp2_with fail
    refine (toActS_o bo acts bcap hal2 _ (HQ.out.on B_24.out)).mono ?_
    rintro e w25 ⟨g25, rfl, hlo25, hhi25, h25, b25⟩
    have O25 := hid b25.size
    have Y25 := hid h25
    clear h25
    have X_disk_25 := hid (X_disk_24.out.on b25 X_disk_24.out.lt)
    have B_25 := hid (below_via B_24.out b25)
    have R_w_25 := hid (R_w_24.out.on b25)
    have X_w_25 := hid (X_w_24.out.on b25 X_w_24.out.lt)
    have X_x_25 := hid (X_x_24.out.on b25 X_x_24.out.lt)
    have X_g_25 := hid (X_g_24.out.on b25 X_g_24.out.lt)
    have M_25 := hid (M_24.out.on b25)
    have Y24_25 := hid (Y24.out.on b25)
    clear b25 X_disk_24 B_24 R_w_24 X_w_24 X_x_24 X_g_24 M_24 Y24 cX_disk0_24 cX_w0_24 cX_x0_24 cX_g0_24
    have cX_disk0_25 := X_disk_25.out.cell (j := 0) rfl
    have cX_w0_25 := X_w_25.out.cell (j := 0) rfl
    have cX_x0_25 := X_x_25.out.cell (j := 0) rfl
    have cX_g0_25 := X_g_25.out.cell (j := 0) rfl
    go_wp2_with fail
    refine (toIntS_o lo zs lcap hzl2 _ (HZ.out.on B_25.out)).mono ?_
    rintro e w26 ⟨g26, rfl, hlo26, hhi26, h26, b26⟩
    have O26 := hid b26.size
    have Y26 := hid h26
    clear h26
    have X_disk_26 := hid (X_disk_25.out.on b26 X_disk_25.out.lt)
    have B_26 := hid (below_via B_25.out b26)
    have R_w_26 := hid (R_w_25.out.on b26)
    have X_w_26 := hid (X_w_25.out.on b26 X_w_25.out.lt)
    have X_x_26 := hid (X_x_25.out.on b26 X_x_25.out.lt)
    have X_g_26 := hid (X_g_25.out.on b26 X_g_25.out.lt)
    have M_26 := hid (M_25.out.on b26)
    have Y24_26 := hid (Y24_25.out.on b26)
    have Y25_26 := hid (Y25.out.on b26 Y25.out.lt)
    clear b26 X_disk_25 B_25 R_w_25 X_w_25 X_x_25 X_g_25 M_25 Y24_25 Y25 cX_disk0_25 cX_w0_25 cX_x0_25 cX_g0_25
    have cX_disk0_26 := X_disk_26.out.cell (j := 0) rfl
    have cX_w0_26 := X_w_26.out.cell (j := 0) rfl
    have cX_x0_26 := X_x_26.out.cell (j := 0) rfl
    have cX_g0_26 := X_g_26.out.cell (j := 0) rfl
    have CQ := hid (implCutActs_o _ l c24 _ acts acts.length nn _ zs zs.length hl2 HSM.out hal2 HAM.out (Nat.le_refl _) hzl2 _ Y24_26.out.files (acts_of Y25_26.out) (ints_of Y26.out))
    rw [hF] at CQ
    dsimp only at CQ
    go_wp2_with fail
    refine Calls.mono CQ.out ?_
    rintro e w27 ⟨v27, c27, rfl, h27, b27⟩
    have O27 := hid b27.size
    have R_h := hid h27
    clear h27 CQ
    have X_disk_27 := hid (X_disk_26.out.on b27 X_disk_26.out.lt)
    have B_27 := hid (below_via B_26.out b27)
    have R_w_27 := hid (R_w_26.out.on b27)
    have X_w_27 := hid (X_w_26.out.on b27 X_w_26.out.lt)
    have X_x_27 := hid (X_x_26.out.on b27 X_x_26.out.lt)
    have X_g_27 := hid (X_g_26.out.on b27 X_g_26.out.lt)
    have M_27 := hid (M_26.out.on b27)
    have Y24_27 := hid (Y24_26.out.on b27)
    have Y25_27 := hid (Y25_26.out.on b27 Y25_26.out.lt)
    have Y26_27 := hid (Y26.out.on b27 Y26.out.lt)
    clear b27 X_disk_26 B_26 R_w_26 X_w_26 X_x_26 X_g_26 M_26 Y24_26 Y25_26 Y26 cX_disk0_26 cX_w0_26 cX_x0_26 cX_g0_26
    have cX_disk0_27 := X_disk_27.out.cell (j := 0) rfl
    have cX_w0_27 := X_w_27.out.cell (j := 0) rfl
    have cX_x0_27 := X_x_27.out.cell (j := 0) rfl
    have cX_g0_27 := X_g_27.out.cell (j := 0) rfl
    clear Y24_27
    clear Y25_27
    clear Y26_27
    have ba := below_more (Below.refl w27.heap.size w27) (.cells #[.slice v27 A.length c27] 31)
    have hx : BlockIs (w27.alloc (.cells #[.slice v27 A.length c27] 31)) w27.heap.size 31 [.slice v27 A.length c27] := heap_alloc_new w27 _
    have X_disk_27a := hid (X_disk_27.out.on ba X_disk_27.out.lt)
    have B_27a := hid (below_via B_27.out ba)
    have R_w_27a := hid (R_w_27.out.on ba)
    have X_w_27a := hid (X_w_27.out.on ba X_w_27.out.lt)
    have X_x_27a := hid (X_x_27.out.on ba X_x_27.out.lt)
    have X_g_27a := hid (X_g_27.out.on ba X_g_27.out.lt)
    have M_27a := hid (M_27.out.on ba)
    have R_h_27a := hid (R_h.out.on ba)
    have X_h_27a := hid hx
    have O27a := hid hx.lt
    clear ba hx X_disk_27 B_27 R_w_27 X_w_27 X_x_27 X_g_27 M_27 R_h
    have cX_disk0_27a := X_disk_27a.out.cell (j := 0) rfl
    have cX_w0_27a := X_w_27a.out.cell (j := 0) rfl
    have cX_x0_27a := X_x_27a.out.cell (j := 0) rfl
    have cX_g0_27a := X_g_27a.out.cell (j := 0) rfl
    have cX_h0_27a := X_h_27a.out.cell (j := 0) rfl
    go_wp2_with fail
    refine (eqDisk_o v27 v6 A c27 c6 hA2 _ (R_h_27a.out.files) (R_w_27a.out.files)).mono ?_
    rintro e w28 ⟨rfl, b28⟩
    have O28 := hid b28.size
    have X_disk_28 := hid (X_disk_27a.out.on b28 X_disk_27a.out.lt)
    have B_28 := hid (below_via B_27a.out b28)
    have R_w_28 := hid (R_w_27a.out.on b28)
    have X_w_28 := hid (X_w_27a.out.on b28 X_w_27a.out.lt)
    have X_x_28 := hid (X_x_27a.out.on b28 X_x_27a.out.lt)
    have X_g_28 := hid (X_g_27a.out.on b28 X_g_27a.out.lt)
    have M_28 := hid (M_27a.out.on b28)
    have R_h_28 := hid (R_h_27a.out.on b28)
    have X_h_28 := hid (X_h_27a.out.on b28 X_h_27a.out.lt)
    clear b28 X_disk_27a B_27a R_w_27a X_w_27a X_x_27a X_g_27a M_27a R_h_27a X_h_27a cX_disk0_27a cX_w0_27a cX_x0_27a cX_g0_27a cX_h0_27a cX_disk0_27 cX_w0_27 cX_x0_27 cX_g0_27
    have cX_disk0_28 := X_disk_28.out.cell (j := 0) rfl
    have cX_w0_28 := X_w_28.out.cell (j := 0) rfl
    have cX_x0_28 := X_x_28.out.cell (j := 0) rfl
    have cX_g0_28 := X_g_28.out.cell (j := 0) rfl
    have cX_h0_28 := X_h_28.out.cell (j := 0) rfl
    go_wp2_with fail
    refine (heldDisk_any v10 A.length c10 1 (by omega) hA2 _ M_28.out).mono ?_
    rintro e w29 ⟨rfl, b29⟩
    have O29 := hid b29.size
    have X_disk_29 := hid (X_disk_28.out.on b29 X_disk_28.out.lt)
    have B_29 := hid (below_via B_28.out b29)
    have R_w_29 := hid (R_w_28.out.on b29)
    have X_w_29 := hid (X_w_28.out.on b29 X_w_28.out.lt)
    have X_x_29 := hid (X_x_28.out.on b29 X_x_28.out.lt)
    have X_g_29 := hid (X_g_28.out.on b29 X_g_28.out.lt)
    have M_29 := hid (M_28.out.on b29)
    have R_h_29 := hid (R_h_28.out.on b29)
    have X_h_29 := hid (X_h_28.out.on b29 X_h_28.out.lt)
    clear b29 X_disk_28 B_28 R_w_28 X_w_28 X_x_28 X_g_28 M_28 R_h_28 X_h_28 cX_disk0_28 cX_w0_28 cX_x0_28 cX_g0_28 cX_h0_28
    have cX_disk0_29 := X_disk_29.out.cell (j := 0) rfl
    have cX_w0_29 := X_w_29.out.cell (j := 0) rfl
    have cX_x0_29 := X_x_29.out.cell (j := 0) rfl
    have cX_g0_29 := X_g_29.out.cell (j := 0) rfl
    have cX_h0_29 := X_h_29.out.cell (j := 0) rfl
    go_wp2
    go_ret
    exact ⟨rfl, B_29.out⟩

theorem own : ownKnob Try.prog.godebug = none := by kernel_rfl
theorem laidOut : laidOutB Try.prog = true := by kernel_rfl
theorem rowed : varsRowed Try.prog Rows.fnExactCutActsSpec.vars = true := by kernel_rfl
set_option maxRecDepth 1000000 in
theorem contract (H : Type) (enc : TypeId × Value → H) (W : World) (base : Nat) (args : Array Value) (ds gs : List (DataW H)) (before : List MemPlace)
    (hval : ∀ (j : Nat) t v, Try.f3.params[j]? = some t → args[j]? = some v → Value.okWide Try.prog W .any base t v)
    (hW : DataW.Whole enc Try.prog Try.f3.params.toList Rows.fnExactCutActsSpec.vars false W args.toList ds gs before) (_hL : laidMetH Try.prog Rows.fnExactCutActsRow.laid W) :
    Calls Try.prog 3 args W fun e W' => ∃ v, e = .returned v ∧ Rows.fnExactCutActsSpec.post enc Try.prog Try.f3 false true false false W args v W' := by
  have hW' := hW
  obtain ⟨p, q, hA0, hV0, rfl, hfz, hnd⟩ := hW
  have hV : DataW.TrodVars enc Try.prog W (fun _ => true) Rows.fnExactCutActsSpec.vars gs q := hV0
  have hA : DataW.TrodAll enc Try.prog W 0 (fun _ => true) true Try.f3.params.toList args.toList ds p := hA0
  rw [Try.params3] at hA hval
  obtain ⟨v0, vs0, d0, ds0, p0, q0, hargs0, rfl, rfl, h0, r0⟩ := trodAll_cons hA
  obtain ⟨v1, vs1, d1, ds1, p1, q1, hargs1, rfl, rfl, h1, r1⟩ := trodAll_cons r0
  subst hargs1
  obtain ⟨v2, vs2, d2, ds2, p2, q2, hargs2, rfl, rfl, h2, r2⟩ := trodAll_cons r1
  subst hargs2
  obtain ⟨v3, vs3, d3, ds3, p3, q3, hargs3, rfl, rfl, h3, r3⟩ := trodAll_cons r2
  subst hargs3
  obtain ⟨rfl, rfl, rfl⟩ := trodAll_nil r3
  obtain rfl : args = #[v0, v1, v2, v3] := by cases args; simp_all
  have k0 := h0
  have lt0 : ∀ x ∈ p0, x.block < W.heap.size := by obtain ⟨m, hm⟩ := k0; exact DataW.trod_lt m _ _ _ hm
  obtain ⟨a0, l0, cap0, rfl, hc0, hm0, hat0, hfit0, hkept0⟩ := open_disk (hval 0 24 v0 rfl rfl) h0
  have k1 := h1
  have lt1 : ∀ x ∈ p1, x.block < W.heap.size := by obtain ⟨m, hm⟩ := k1; exact DataW.trod_lt m _ _ _ hm
  obtain ⟨a1, z1, cap1, rfl, hc1, hm1, hat1, hf1⟩ := open_acts (hval 1 25 v1 rfl rfl) h1
  obtain ⟨a2, rfl, rfl, rfl, w2⟩ := open_int Try.underlying3 (hval 2 3 v2 rfl rfl) h2
  have k3 := h3
  have lt3 : ∀ x ∈ p3, x.block < W.heap.size := by obtain ⟨m, hm⟩ := k3; exact DataW.trod_lt m _ _ _ hm
  obtain ⟨a3, z3, cap3, rfl, hc3, hm3, hat3, hf3⟩ := open_intS (hval 3 26 v3 rfl rfl) h3
  clear hA0 hV0
  obtain ⟨rfl, rfl⟩ := trodVars_none hV
  refine (walk a0 l0 cap0 (Nat.le_trans hc0 hm0) hfit0 hkept0 a1 z1 cap1 (Nat.le_trans hc1 hm1) hf1 a2 w2 a3 z3 cap3 (Nat.le_trans hc3 hm3) hf3 W hat0 hat1 hat3).mono fun e W' ⟨he, bel⟩ => ?_
  subst he
  exact ⟨_, rfl, _, _, _, [], _, [], hW', trodAll_mk1 (shut_bool Try.underlying4 _), trodAll_cons_mk (Below.trod laidOut (by kernel_rfl) (of_decide_eq_true (by kernel_rfl)) k0 bel lt0) (trodAll_cons_mk (Below.trod laidOut (by kernel_rfl) (of_decide_eq_true (by kernel_rfl)) k1 bel lt1) (trodAll_cons_mk (shut_int Try.underlying3 w2) (trodAll_cons_mk (Below.trod laidOut (by kernel_rfl) (of_decide_eq_true (by kernel_rfl)) k3 bel lt3) (trodAll_mk0)))), rfl, bel.frame _, fun h => by cases h⟩

def put (cs : Array Value) : Obj → Obj
  | .cells _ t frozen => .cells cs t frozen
  | o => o

/-- a world for the witness: the tables hold what their initialisers lay -/
def laidWorld (w : World) : World := { w with heap := w.heap }
theorem laid_met (os : Os) : laidMet Try.prog Rows.fnExactCutActsRow.laid ((laidWorld (World.holding Try.prog os ⟨#[], #[], []⟩)).forCall (fun _ _ => 0) ⟨#[], #[.agg #[.slice none 0 0], .slice none 0 0, .int .i64 0, .slice none 0 0], []⟩).memory :=
  laidMet_of_run' 8 (by kernel_rfl) (by kernel_rfl)
theorem reads (os : Os) {H : Type} (enc : TypeId × Value → H) : ∃ places, DataW.whole enc Try.prog ((laidWorld (World.holding Try.prog os ⟨#[], #[], []⟩)).forCall (fun _ _ => 0) ⟨#[], #[.agg #[.slice none 0 0], .slice none 0 0, .int .i64 0, .slice none 0 0], []⟩).memory Try.f3.params.toList Rows.fnExactCutActsSpec.vars false #[Value.agg #[.slice none 0 0], .slice none 0 0, .int .i64 0, .slice none 0 0].toList 8 = some ([.agg [.nil], .nil, .lit (.int .i64 0), .nil], [], places) :=
  ⟨[], by kernel_rfl⟩

set_option maxRecDepth 1000000 in
theorem lifted (os : Os) (started : os.Started) (H : Type) (enc : TypeId × Value → H) (F : Stop.Interp) :
    ReturnsInHanded {} Try.checked os 3 .any ((OpenSpec.ofChange Rows.fnExactCutActsSpec).preRow enc Try.prog Try.f3 Rows.fnExactCutActsRow.domain false Rows.fnExactCutActsRow.laid) (((OpenSpec.ofChange Rows.fnExactCutActsSpec).at F).post enc Try.prog Try.f3 false true false false) := by
  obtain ⟨places, hx⟩ := reads os enc
  refine returnsInHanded_of_row (C := Try.checked) (s := OpenSpec.ofChange Rows.fnExactCutActsSpec) own started (by kernel_rfl) Try.func3
    (witness_row_at (enc := enc) (C := Try.checked) false (laidWorld (World.holding Try.prog os ⟨#[], #[], []⟩)) #[.agg #[.slice none 0 0], .slice none 0 0, .int .i64 0, .slice none 0 0] rfl (by kernel_rfl) (by kernel_rfl) (by kernel_rfl)
      (OpenSpec.preRow_of_cond 8 hx (by kernel_rfl) (fun k hk => by cases hk) (by kernel_rfl) (laid_met os))) ?_
  intro W base args ds gs before hval hW _ _ _ hL _ _
  exact contract H enc W base args ds gs before hval hW hL

theorem said : Rows.FnExactCutActsSaid :=
  OpenClaim.holds_of_cond 3 Try.f3 rfl rfl rfl rfl rfl rfl rfl ⟨rfl, rfl, rfl, rfl, rfl⟩ rfl rfl rfl rfl rfl (by kernel_rfl) Try.func3 (by kernel_rfl)
    (of_decide_eq_true (by kernel_rfl)) (by unfold Func.isWrapper; first | (rw [if_pos (by decide +kernel)]; kernel_rfl) | (rw [if_neg (by decide +kernel)]; exact ⟨rfl, rfl⟩))
    (fun os started H enc _ F => by rw [OpenClaim.pre_eq_preRow]; exact lifted os started H enc F)

end Go.Proofs.Ythkfgiilbkjojab.fnExactCutActs
