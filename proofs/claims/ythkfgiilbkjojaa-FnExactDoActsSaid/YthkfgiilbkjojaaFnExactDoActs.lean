/-
  For every argument, laws.FnExactDoActs returns true: impl.DoActs and spec.DoActs answer alike, no argument is written, the answer owns its memory; nothing that was in memory is written.
-/
import Derived.Test.YthkfgiilbkjojaaRows
import Derived.Test.YthkfgiilbkjojaaOpenDisk
import Derived.Test.YthkfgiilbkjojaaOpenActs
import Derived.Test.YthkfgiilbkjojaaExactActs
import Derived.Test.YthkfgiilbkjojaaDoAllI
import Derived.Deep.RegionWith
import Derived.WalkSmall
import Derived.WalkKit
import Derived.ProofKit
import Derived.OpenShut
import Derived.OpenVars
import Derived.Deep.DeepHandedRow
import Derived.Lib.LaidTab
import Derived.Stop.LaidErr
namespace Go.Proofs.Ythkfgiilbkjojaa.fnExactDoActs
open Go.ChangeShapes Go.WideShapes Go.ChangeAt Go.ChangeMaps Go.RowKit

set_option maxRecDepth 1000000 in
set_option maxHeartbeats 8000000 in
theorem walk (ao : Option Addr) (l : List FileD) (cap : Nat) (hl : l.length ≤ maxLen) (hf : FilesFit l) (_hk : KeptFit l) (bo : Option Addr) (acts : List ActD) (bcap : Nat) (hal : acts.length ≤ maxLen) (haf : ActsFit acts) (w : World) (ha : FilesAt w ao l) (hq : ActsAt w bo acts) :
    Calls Try.prog 7 #[.agg #[.slice ao l.length cap], .slice bo acts.length bcap] w fun e w' => e = .returned (.bool true) ∧ Below w.heap.size w w' := by
  have HA := hid ha
  have HQ := hid hq
  have X_disk := (show Hid (BlockIs (w.alloc (.cells #[.slice ao l.length cap] 51)) w.heap.size 51 [.slice ao l.length cap]) from heap_alloc_new w _)
  have HB := hid (below_more (Below.refl w.heap.size w) (.cells #[.slice ao l.length cap] 51))
  have O0 := hid X_disk.out.lt
  clear ha hq
  go_enter Try.func7, Try.ntmps7
  go_wp2_with fail
  refine (szDisk_any ao l cap 1048576 (by omega) (by omega) hl hf _ (HA.out.on HB.out)).mono ?_
  rintro e w1 ⟨hor, b1⟩
  have O1 := hid b1.size
  have X_disk_1 := hid (X_disk.out.on b1 X_disk.out.lt)
  have B_1 := hid (below_via HB.out b1)
  clear b1 X_disk HB
  have cX_disk0_1 := X_disk_1.out.cell (j := 0) rfl
  rcases hor with ⟨hneg, rfl⟩ | ⟨hnn, rfl⟩
  · go_wp2
    go_ret
    exact ⟨rfl, B_1.out⟩
  have hl2 := (filesSmall hnn).1
  have HSM := hid (filesSmall hnn).2
  go_wp2_with fail
  refine (szActS_any bo acts bcap (1048576 - l.length - fileBulk l) (by omega) (by have := fileBulk_nonneg l; omega) hal haf _ (HQ.out.on B_1.out)).mono ?_
  rintro e w2 ⟨hor, b2⟩
  have O2 := hid b2.size
  have X_disk_2 := hid (X_disk_1.out.on b2 X_disk_1.out.lt)
  have B_2 := hid (below_via B_1.out b2)
  clear b2 X_disk_1 B_1 cX_disk0_1
  have cX_disk0_2 := X_disk_2.out.cell (j := 0) rfl
  rcases hor with ⟨hneg, rfl⟩ | ⟨hnn2, rfl⟩
  · go_wp2
    go_ret
    exact ⟨rfl, B_2.out⟩
  have hal2 := (actsSmall hnn hnn2).1
  have ham := (actsSmall hnn hnn2).2
  have HAM := hid ham
  clear ham
  clear hf hl
  obtain ⟨A, ok, hF⟩ : ∃ A ok, doAll l acts = (A, ok) := ⟨_, _, rfl⟩
  have hA2 : A.length ≤ 1048576 := by have := doAll_small (acts := acts) hl2; rw [hF] at this; exact this
  go_wp2_with fail
  refine (toDisk_o ao l cap hl2 _ (HA.out.on B_2.out)).mono ?_
  rintro e w3 ⟨v3, c3, rfl, h3, b3⟩
  have O3 := hid b3.size
  have Y3 := hid h3
  clear h3
  have X_disk_3 := hid (X_disk_2.out.on b3 X_disk_2.out.lt)
  have B_3 := hid (below_via B_2.out b3)
  clear b3 X_disk_2 B_2 cX_disk0_2
  have cX_disk0_3 := X_disk_3.out.cell (j := 0) rfl
  go_wp2_with fail
  refine (toActS_o bo acts bcap hal2 _ (HQ.out.on B_3.out)).mono ?_
  rintro e w4 ⟨g4, rfl, hlo4, hhi4, h4, b4⟩
  have O4 := hid b4.size
  have Y4 := hid h4
  clear h4
  have X_disk_4 := hid (X_disk_3.out.on b4 X_disk_3.out.lt)
  have B_4 := hid (below_via B_3.out b4)
  have Y3_4 := hid (Y3.out.on b4)
  clear b4 X_disk_3 B_3 Y3 cX_disk0_3
  have cX_disk0_4 := X_disk_4.out.cell (j := 0) rfl
  have CQ := hid (specDoActs_o _ l c3 _ acts acts.length hl2 hal2 HAM.out _ Y3_4.out.files (acts_of Y4.out))
  rw [hF] at CQ
  dsimp only at CQ
  go_wp2_with fail
  refine Calls.mono CQ.out ?_
  rintro e w5 ⟨v5, c5, rfl, h5, b5⟩
  have O5 := hid b5.size
  have R_w := hid h5
  clear h5 CQ
  have X_disk_5 := hid (X_disk_4.out.on b5 X_disk_4.out.lt)
  have B_5 := hid (below_via B_4.out b5)
  have Y3_5 := hid (Y3_4.out.on b5)
  have Y4_5 := hid (Y4.out.on b5 Y4.out.lt)
  clear b5 X_disk_4 B_4 Y3_4 Y4 cX_disk0_4
  have cX_disk0_5 := X_disk_5.out.cell (j := 0) rfl
  clear Y3_5
  clear Y4_5
  have ba := below_more (Below.refl w5.heap.size w5) (.cells #[.slice v5 A.length c5] 26)
  have hx : BlockIs (w5.alloc (.cells #[.slice v5 A.length c5] 26)) w5.heap.size 26 [.slice v5 A.length c5] := heap_alloc_new w5 _
  have X_disk_5a := hid (X_disk_5.out.on ba X_disk_5.out.lt)
  have B_5a := hid (below_via B_5.out ba)
  have R_w_5a := hid (R_w.out.on ba)
  have X_w_5a := hid hx
  have O5a := hid hx.lt
  clear ba hx X_disk_5 B_5 R_w
  have cX_disk0_5a := X_disk_5a.out.cell (j := 0) rfl
  have cX_w0_5a := X_w_5a.out.cell (j := 0) rfl
  go_wp2_with fail
  refine (toDisk_o ao l cap hl2 _ (HA.out.on B_5a.out)).mono ?_
  rintro e w6 ⟨v6, c6, rfl, h6, b6⟩
  have O6 := hid b6.size
  have Y6 := hid h6
  clear h6
  have X_disk_6 := hid (X_disk_5a.out.on b6 X_disk_5a.out.lt)
  have B_6 := hid (below_via B_5a.out b6)
  have R_w_6 := hid (R_w_5a.out.on b6)
  have X_w_6 := hid (X_w_5a.out.on b6 X_w_5a.out.lt)
  clear b6 X_disk_5a B_5a R_w_5a X_w_5a cX_disk0_5a cX_w0_5a cX_disk0_5
  have cX_disk0_6 := X_disk_6.out.cell (j := 0) rfl
  have cX_w0_6 := X_w_6.out.cell (j := 0) rfl
  have ba := below_more (Below.refl w6.heap.size w6) (.cells #[.slice v6 l.length c6] 26)
  have hx : BlockIs (w6.alloc (.cells #[.slice v6 l.length c6] 26)) w6.heap.size 26 [.slice v6 l.length c6] := heap_alloc_new w6 _
  have X_disk_6a := hid (X_disk_6.out.on ba X_disk_6.out.lt)
  have B_6a := hid (below_via B_6.out ba)
  have R_w_6a := hid (R_w_6.out.on ba)
  have X_w_6a := hid (X_w_6.out.on ba X_w_6.out.lt)
  have Y6_6a := hid (Y6.out.on ba)
  have X_x_6a := hid hx
  have O6a := hid hx.lt
  clear ba hx X_disk_6 B_6 R_w_6 X_w_6 Y6
  have cX_disk0_6a := X_disk_6a.out.cell (j := 0) rfl
  have cX_w0_6a := X_w_6a.out.cell (j := 0) rfl
  have cX_x0_6a := X_x_6a.out.cell (j := 0) rfl
  go_wp2_with fail
  refine (toActS_o bo acts bcap hal2 _ (HQ.out.on B_6a.out)).mono ?_
  rintro e w7 ⟨g7, rfl, hlo7, hhi7, h7, b7⟩
  have O7 := hid b7.size
  have Y7 := hid h7
  clear h7
  have X_disk_7 := hid (X_disk_6a.out.on b7 X_disk_6a.out.lt)
  have B_7 := hid (below_via B_6a.out b7)
  have R_w_7 := hid (R_w_6a.out.on b7)
  have X_w_7 := hid (X_w_6a.out.on b7 X_w_6a.out.lt)
  have Y6_7 := hid (Y6_6a.out.on b7)
  have X_x_7 := hid (X_x_6a.out.on b7 X_x_6a.out.lt)
  clear b7 X_disk_6a B_6a R_w_6a X_w_6a Y6_6a X_x_6a cX_disk0_6a cX_w0_6a cX_x0_6a cX_disk0_6 cX_w0_6
  have cX_disk0_7 := X_disk_7.out.cell (j := 0) rfl
  have cX_w0_7 := X_w_7.out.cell (j := 0) rfl
  have cX_x0_7 := X_x_7.out.cell (j := 0) rfl
  have CQ := hid (implDoActs_o _ l c6 _ acts acts.length hl2 HSM.out hal2 HAM.out _ Y6_7.out.files (acts_of Y7.out))
  rw [hF] at CQ
  dsimp only at CQ
  go_wp2_with fail
  refine Calls.mono CQ.out ?_
  rintro e w8 ⟨v8, c8, rfl, h8, b8⟩
  have O8 := hid b8.size
  have R_g := hid h8
  clear h8 CQ
  have X_disk_8 := hid (X_disk_7.out.on b8 X_disk_7.out.lt)
  have B_8 := hid (below_via B_7.out b8)
  have R_w_8 := hid (R_w_7.out.on b8)
  have X_w_8 := hid (X_w_7.out.on b8 X_w_7.out.lt)
  have Y6_8 := hid (Y6_7.out.on b8)
  have X_x_8 := hid (X_x_7.out.on b8 X_x_7.out.lt)
  have Y7_8 := hid (Y7.out.on b8 Y7.out.lt)
  clear b8 X_disk_7 B_7 R_w_7 X_w_7 Y6_7 X_x_7 Y7 cX_disk0_7 cX_w0_7 cX_x0_7
  have cX_disk0_8 := X_disk_8.out.cell (j := 0) rfl
  have cX_w0_8 := X_w_8.out.cell (j := 0) rfl
  have cX_x0_8 := X_x_8.out.cell (j := 0) rfl
  have ba := below_more (Below.refl w8.heap.size w8) (.cells #[.slice v8 A.length c8] 26)
  have hx : BlockIs (w8.alloc (.cells #[.slice v8 A.length c8] 26)) w8.heap.size 26 [.slice v8 A.length c8] := heap_alloc_new w8 _
  have X_disk_8a := hid (X_disk_8.out.on ba X_disk_8.out.lt)
  have B_8a := hid (below_via B_8.out ba)
  have R_w_8a := hid (R_w_8.out.on ba)
  have X_w_8a := hid (X_w_8.out.on ba X_w_8.out.lt)
  have Y6_8a := hid (Y6_8.out.on ba)
  have X_x_8a := hid (X_x_8.out.on ba X_x_8.out.lt)
  have Y7_8a := hid (Y7_8.out.on ba Y7_8.out.lt)
  have R_g_8a := hid (R_g.out.on ba)
  have X_g_8a := hid hx
  have O8a := hid hx.lt
  clear ba hx X_disk_8 B_8 R_w_8 X_w_8 Y6_8 X_x_8 Y7_8 R_g
  have cX_disk0_8a := X_disk_8a.out.cell (j := 0) rfl
  have cX_w0_8a := X_w_8a.out.cell (j := 0) rfl
  have cX_x0_8a := X_x_8a.out.cell (j := 0) rfl
  have cX_g0_8a := X_g_8a.out.cell (j := 0) rfl
  go_wp2_with fail
  refine (eqDisk_o v8 v5 A c8 c5 hA2 _ (R_g_8a.out.files) (R_w_8a.out.files)).mono ?_
  rintro e w9 ⟨rfl, b9⟩
  have O9 := hid b9.size
  have X_disk_9 := hid (X_disk_8a.out.on b9 X_disk_8a.out.lt)
  have B_9 := hid (below_via B_8a.out b9)
  have R_w_9 := hid (R_w_8a.out.on b9)
  have X_w_9 := hid (X_w_8a.out.on b9 X_w_8a.out.lt)
  have Y6_9 := hid (Y6_8a.out.on b9)
  have X_x_9 := hid (X_x_8a.out.on b9 X_x_8a.out.lt)
  have Y7_9 := hid (Y7_8a.out.on b9 Y7_8a.out.lt)
  have R_g_9 := hid (R_g_8a.out.on b9)
  have X_g_9 := hid (X_g_8a.out.on b9 X_g_8a.out.lt)
  clear b9 X_disk_8a B_8a R_w_8a X_w_8a Y6_8a X_x_8a Y7_8a R_g_8a X_g_8a cX_disk0_8a cX_w0_8a cX_x0_8a cX_g0_8a cX_disk0_8 cX_w0_8 cX_x0_8
  have cX_disk0_9 := X_disk_9.out.cell (j := 0) rfl
  have cX_w0_9 := X_w_9.out.cell (j := 0) rfl
  have cX_x0_9 := X_x_9.out.cell (j := 0) rfl
  have cX_g0_9 := X_g_9.out.cell (j := 0) rfl
  have CT : Hid (Calls Try.prog 27 #[.agg #[.slice ao l.length cap]] w9.drew fun e w10 => ∃ v10 c10, e = .returned (.agg #[.slice v10 l.length c10]) ∧ w10.cell? ⟨w6.heap.size, 0, none⟩ = some (.slice v6 l.length c6) ∧ Hid (Below w9.heap.size w9 w10 ∧ FilesAt w10 v10 l)) := by
    have hd : Below w9.heap.size w9 w9.drew := below_drewN (Below.refl w9.heap.size w9) 1
    refine Calls.mono (toDisk_o ao l cap hl2 w9.drew (HA.out.on (below_via B_9.out hd))) ?_
    rintro e w10 ⟨v10, c10, rfl, h10, b10⟩
    have h67 := below_via hd b10
    exact ⟨v10, c10, rfl, (X_x_9.out.on h67 X_x_9.out.lt).cell (j := 0) rfl, h67, h10.files⟩
  go_wp2
  go_region_with (first | (go_at_call 27; refine Calls.mono CT.out ?_; rintro e w10 ⟨v10, c10, rfl, y10, H10⟩) | (go_at_call 28; refine (eqDisk_o _ _ l _ _ hl2 _ ((Y6_9.out.on H10.out.1).files) H10.out.2).mono ?_; rintro e w11 ⟨rfl, b11⟩))
  all_goals
    have bb := below_via H10.out.1 b11
    have O11 := hid bb.size
    have X_disk_11 := hid (X_disk_9.out.on bb X_disk_9.out.lt)
    have B_11 := hid (below_via B_9.out bb)
    have R_w_11 := hid (R_w_9.out.on bb)
    have X_w_11 := hid (X_w_9.out.on bb X_w_9.out.lt)
    have Y6_11 := hid (Y6_9.out.on bb)
    have X_x_11 := hid (X_x_9.out.on bb X_x_9.out.lt)
    have Y7_11 := hid (Y7_9.out.on bb Y7_9.out.lt)
    have R_g_11 := hid (R_g_9.out.on bb)
    have X_g_11 := hid (X_g_9.out.on bb X_g_9.out.lt)
    clear bb b11 H10 CT y10 X_disk_9 B_9 R_w_9 X_w_9 Y6_9 X_x_9 Y7_9 R_g_9 X_g_9 cX_disk0_9 cX_w0_9 cX_x0_9 cX_g0_9
    have cX_disk0_11 := X_disk_11.out.cell (j := 0) rfl
    have cX_w0_11 := X_w_11.out.cell (j := 0) rfl
    have cX_x0_11 := X_x_11.out.cell (j := 0) rfl
    have cX_g0_11 := X_g_11.out.cell (j := 0) rfl
    go_wp2_with fail
    refine (toActS_o bo acts bcap hal2 _ (HQ.out.on B_11.out)).mono ?_
    rintro e w12 ⟨g12, rfl, hlo12, hhi12, h12, b12⟩
    have O12 := hid b12.size
    have Y12 := hid h12
    clear h12
    have X_disk_12 := hid (X_disk_11.out.on b12 X_disk_11.out.lt)
    have B_12 := hid (below_via B_11.out b12)
    have R_w_12 := hid (R_w_11.out.on b12)
    have X_w_12 := hid (X_w_11.out.on b12 X_w_11.out.lt)
    have Y6_12 := hid (Y6_11.out.on b12)
    have X_x_12 := hid (X_x_11.out.on b12 X_x_11.out.lt)
    have Y7_12 := hid (Y7_11.out.on b12 Y7_11.out.lt)
    have R_g_12 := hid (R_g_11.out.on b12)
    have X_g_12 := hid (X_g_11.out.on b12 X_g_11.out.lt)
    clear b12 X_disk_11 B_11 R_w_11 X_w_11 Y6_11 X_x_11 Y7_11 R_g_11 X_g_11 cX_disk0_11 cX_w0_11 cX_x0_11 cX_g0_11
    have cX_disk0_12 := X_disk_12.out.cell (j := 0) rfl
    have cX_w0_12 := X_w_12.out.cell (j := 0) rfl
    have cX_x0_12 := X_x_12.out.cell (j := 0) rfl
    have cX_g0_12 := X_g_12.out.cell (j := 0) rfl
    go_wp2_with fail
    refine (eqActS_same _ _ acts _ _ (by omega) _ (acts_of Y7_12.out) (acts_of Y12.out)).mono ?_
    rintro e w13 ⟨rfl, b13⟩
    have O13 := hid b13.size
    have X_disk_13 := hid (X_disk_12.out.on b13 X_disk_12.out.lt)
    have B_13 := hid (below_via B_12.out b13)
    have R_w_13 := hid (R_w_12.out.on b13)
    have X_w_13 := hid (X_w_12.out.on b13 X_w_12.out.lt)
    have Y6_13 := hid (Y6_12.out.on b13)
    have X_x_13 := hid (X_x_12.out.on b13 X_x_12.out.lt)
    have Y7_13 := hid (Y7_12.out.on b13 Y7_12.out.lt)
    have R_g_13 := hid (R_g_12.out.on b13)
    have X_g_13 := hid (X_g_12.out.on b13 X_g_12.out.lt)
    have Y12_13 := hid (Y12.out.on b13 Y12.out.lt)
    clear b13 X_disk_12 B_12 R_w_12 X_w_12 Y6_12 X_x_12 Y7_12 R_g_12 X_g_12 Y12 cX_disk0_12 cX_w0_12 cX_x0_12 cX_g0_12
    have cX_disk0_13 := X_disk_13.out.cell (j := 0) rfl
    have cX_w0_13 := X_w_13.out.cell (j := 0) rfl
    have cX_x0_13 := X_x_13.out.cell (j := 0) rfl
    have cX_g0_13 := X_g_13.out.cell (j := 0) rfl
    clear Y12_13
    go_wp2_with fail
    refine (markDisk_o (1) v6 c6 l ((w5.alloc (.cells #[.slice v5 A.length c5] 26)).heap.size) (w6.heap.size) (by omega) (by omega) _ (by have := O0.out; have := O1.out; have := O2.out; have := O3.out; have := O4.out; have := O5.out; have := O5a.out; have := O6.out; have := O6a.out; have := O7.out; have := O8.out; have := O8a.out; have := O9.out; have := O11.out; have := O12.out; have := O13.out; omega) Y6_13.out).mono ?_
    rintro e w14 ⟨rfl, hm14, kp, b14⟩
    have O14 := hid b14.size
    have X_disk_14 := hid (X_disk_13.out.kept kp (by have := O0.out; have := O1.out; have := O2.out; have := O3.out; have := O4.out; have := O5.out; have := O5a.out; have := O6.out; have := O6a.out; have := O7.out; have := O8.out; have := O8a.out; have := O9.out; have := O11.out; have := O12.out; have := O13.out; have := O14.out; omega))
    have B_14 := hid (B_13.out.trans (b14.mono (by have := O0.out; have := O1.out; have := O2.out; have := O3.out; have := O4.out; have := O5.out; have := O5a.out; have := O6.out; have := O6a.out; have := O7.out; have := O8.out; have := O8a.out; have := O9.out; have := O11.out; have := O12.out; have := O13.out; have := O14.out; omega)))
    have R_w_14 := hid (R_w_13.out.kept kp (by have := O0.out; have := O1.out; have := O2.out; have := O3.out; have := O4.out; have := O5.out; have := O5a.out; have := O6.out; have := O6a.out; have := O7.out; have := O8.out; have := O8a.out; have := O9.out; have := O11.out; have := O12.out; have := O13.out; have := O14.out; omega))
    have X_w_14 := hid (X_w_13.out.kept kp (by have := O0.out; have := O1.out; have := O2.out; have := O3.out; have := O4.out; have := O5.out; have := O5a.out; have := O6.out; have := O6a.out; have := O7.out; have := O8.out; have := O8a.out; have := O9.out; have := O11.out; have := O12.out; have := O13.out; have := O14.out; omega))
    have X_x_14 := hid (X_x_13.out.kept kp (by have := O0.out; have := O1.out; have := O2.out; have := O3.out; have := O4.out; have := O5.out; have := O5a.out; have := O6.out; have := O6a.out; have := O7.out; have := O8.out; have := O8a.out; have := O9.out; have := O11.out; have := O12.out; have := O13.out; have := O14.out; omega))
    have Y7_14 := hid (Y7_13.out.kept kp (by have := O0.out; have := O1.out; have := O2.out; have := O3.out; have := O4.out; have := O5.out; have := O5a.out; have := O6.out; have := O6a.out; have := O7.out; have := O8.out; have := O8a.out; have := O9.out; have := O11.out; have := O12.out; have := O13.out; have := O14.out; omega))
    have R_g_14 := hid (R_g_13.out.kept kp (by have := O0.out; have := O1.out; have := O2.out; have := O3.out; have := O4.out; have := O5.out; have := O5a.out; have := O6.out; have := O6a.out; have := O7.out; have := O8.out; have := O8a.out; have := O9.out; have := O11.out; have := O12.out; have := O13.out; have := O14.out; omega))
    have X_g_14 := hid (X_g_13.out.kept kp (by have := O0.out; have := O1.out; have := O2.out; have := O3.out; have := O4.out; have := O5.out; have := O5a.out; have := O6.out; have := O6a.out; have := O7.out; have := O8.out; have := O8a.out; have := O9.out; have := O11.out; have := O12.out; have := O13.out; have := O14.out; omega))
    clear kp b14 Y6_13 X_disk_13 B_13 R_w_13 X_w_13 X_x_13 Y7_13 R_g_13 X_g_13 cX_disk0_13 cX_w0_13 cX_x0_13 cX_g0_13
    have cX_disk0_14 := X_disk_14.out.cell (j := 0) rfl
    have cX_w0_14 := X_w_14.out.cell (j := 0) rfl
    have cX_x0_14 := X_x_14.out.cell (j := 0) rfl
    have cX_g0_14 := X_g_14.out.cell (j := 0) rfl
    clear hm14
    go_wp2_with fail
    refine (markActS_o g7 acts _ (1 + 3 * l.length) (by omega) hal2 _ Y7_14.out).mono ?_
    rintro e w15 ⟨rfl, kp, b15⟩
    have O15 := hid b15.size
    have X_disk_15 := hid (X_disk_14.out.kept kp (by have := O0.out; have := O1.out; have := O2.out; have := O3.out; have := O4.out; have := O5.out; have := O5a.out; have := O6.out; have := O6a.out; have := O7.out; have := O8.out; have := O8a.out; have := O9.out; have := O11.out; have := O12.out; have := O13.out; have := O14.out; have := O15.out; omega))
    have B_15 := hid (B_14.out.trans (b15.mono (by have := O0.out; have := O1.out; have := O2.out; have := O3.out; have := O4.out; have := O5.out; have := O5a.out; have := O6.out; have := O6a.out; have := O7.out; have := O8.out; have := O8a.out; have := O9.out; have := O11.out; have := O12.out; have := O13.out; have := O14.out; have := O15.out; omega)))
    have R_w_15 := hid (R_w_14.out.kept kp (by have := O0.out; have := O1.out; have := O2.out; have := O3.out; have := O4.out; have := O5.out; have := O5a.out; have := O6.out; have := O6a.out; have := O7.out; have := O8.out; have := O8a.out; have := O9.out; have := O11.out; have := O12.out; have := O13.out; have := O14.out; have := O15.out; omega))
    have X_w_15 := hid (X_w_14.out.kept kp (by have := O0.out; have := O1.out; have := O2.out; have := O3.out; have := O4.out; have := O5.out; have := O5a.out; have := O6.out; have := O6a.out; have := O7.out; have := O8.out; have := O8a.out; have := O9.out; have := O11.out; have := O12.out; have := O13.out; have := O14.out; have := O15.out; omega))
    have X_x_15 := hid (X_x_14.out.kept kp (by have := O0.out; have := O1.out; have := O2.out; have := O3.out; have := O4.out; have := O5.out; have := O5a.out; have := O6.out; have := O6a.out; have := O7.out; have := O8.out; have := O8a.out; have := O9.out; have := O11.out; have := O12.out; have := O13.out; have := O14.out; have := O15.out; omega))
    have R_g_15 := hid (R_g_14.out.kept kp (by have := O0.out; have := O1.out; have := O2.out; have := O3.out; have := O4.out; have := O5.out; have := O5a.out; have := O6.out; have := O6a.out; have := O7.out; have := O8.out; have := O8a.out; have := O9.out; have := O11.out; have := O12.out; have := O13.out; have := O14.out; have := O15.out; omega))
    have X_g_15 := hid (X_g_14.out.kept kp (by have := O0.out; have := O1.out; have := O2.out; have := O3.out; have := O4.out; have := O5.out; have := O5a.out; have := O6.out; have := O6a.out; have := O7.out; have := O8.out; have := O8a.out; have := O9.out; have := O11.out; have := O12.out; have := O13.out; have := O14.out; have := O15.out; omega))
    clear kp b15 Y7_14 X_disk_14 B_14 R_w_14 X_w_14 X_x_14 R_g_14 X_g_14 cX_disk0_14 cX_w0_14 cX_x0_14 cX_g0_14
    have cX_disk0_15 := X_disk_15.out.cell (j := 0) rfl
    have cX_w0_15 := X_w_15.out.cell (j := 0) rfl
    have cX_x0_15 := X_x_15.out.cell (j := 0) rfl
    have cX_g0_15 := X_g_15.out.cell (j := 0) rfl
    go_wp2_with fail
    refine (eqDisk_o v8 v5 A c8 c5 hA2 _ (R_g_15.out.files) (R_w_15.out.files)).mono ?_
    rintro e w16 ⟨rfl, b16⟩
    have O16 := hid b16.size
    have X_disk_16 := hid (X_disk_15.out.on b16 X_disk_15.out.lt)
    have B_16 := hid (below_via B_15.out b16)
    have R_w_16 := hid (R_w_15.out.on b16)
    have X_w_16 := hid (X_w_15.out.on b16 X_w_15.out.lt)
    have X_x_16 := hid (X_x_15.out.on b16 X_x_15.out.lt)
    have R_g_16 := hid (R_g_15.out.on b16)
    have X_g_16 := hid (X_g_15.out.on b16 X_g_15.out.lt)
    clear b16 X_disk_15 B_15 R_w_15 X_w_15 X_x_15 R_g_15 X_g_15 cX_disk0_15 cX_w0_15 cX_x0_15 cX_g0_15
    have cX_disk0_16 := X_disk_16.out.cell (j := 0) rfl
    have cX_w0_16 := X_w_16.out.cell (j := 0) rfl
    have cX_x0_16 := X_x_16.out.cell (j := 0) rfl
    have cX_g0_16 := X_g_16.out.cell (j := 0) rfl
    go_wp2_with fail
    refine (markDisk_o 1 v8 c8 A (w7.heap.size) (w8.heap.size) (by omega) (by omega) _ (by have := O0.out; have := O1.out; have := O2.out; have := O3.out; have := O4.out; have := O5.out; have := O5a.out; have := O6.out; have := O6a.out; have := O7.out; have := O8.out; have := O8a.out; have := O9.out; have := O11.out; have := O12.out; have := O13.out; have := O14.out; have := O15.out; have := O16.out; omega) R_g_16.out).mono ?_
    rintro e w17 ⟨rfl, hm17, kp, b17⟩
    have O17 := hid b17.size
    have X_disk_17 := hid (X_disk_16.out.kept kp (by have := O0.out; have := O1.out; have := O2.out; have := O3.out; have := O4.out; have := O5.out; have := O5a.out; have := O6.out; have := O6a.out; have := O7.out; have := O8.out; have := O8a.out; have := O9.out; have := O11.out; have := O12.out; have := O13.out; have := O14.out; have := O15.out; have := O16.out; have := O17.out; omega))
    have B_17 := hid (B_16.out.trans (b17.mono (by have := O0.out; have := O1.out; have := O2.out; have := O3.out; have := O4.out; have := O5.out; have := O5a.out; have := O6.out; have := O6a.out; have := O7.out; have := O8.out; have := O8a.out; have := O9.out; have := O11.out; have := O12.out; have := O13.out; have := O14.out; have := O15.out; have := O16.out; have := O17.out; omega)))
    have R_w_17 := hid (R_w_16.out.kept kp (by have := O0.out; have := O1.out; have := O2.out; have := O3.out; have := O4.out; have := O5.out; have := O5a.out; have := O6.out; have := O6a.out; have := O7.out; have := O8.out; have := O8a.out; have := O9.out; have := O11.out; have := O12.out; have := O13.out; have := O14.out; have := O15.out; have := O16.out; have := O17.out; omega))
    have X_w_17 := hid (X_w_16.out.kept kp (by have := O0.out; have := O1.out; have := O2.out; have := O3.out; have := O4.out; have := O5.out; have := O5a.out; have := O6.out; have := O6a.out; have := O7.out; have := O8.out; have := O8a.out; have := O9.out; have := O11.out; have := O12.out; have := O13.out; have := O14.out; have := O15.out; have := O16.out; have := O17.out; omega))
    have X_x_17 := hid (X_x_16.out.kept kp (by have := O0.out; have := O1.out; have := O2.out; have := O3.out; have := O4.out; have := O5.out; have := O5a.out; have := O6.out; have := O6a.out; have := O7.out; have := O8.out; have := O8a.out; have := O9.out; have := O11.out; have := O12.out; have := O13.out; have := O14.out; have := O15.out; have := O16.out; have := O17.out; omega))
    have X_g_17 := hid (X_g_16.out.kept kp (by have := O0.out; have := O1.out; have := O2.out; have := O3.out; have := O4.out; have := O5.out; have := O5a.out; have := O6.out; have := O6a.out; have := O7.out; have := O8.out; have := O8a.out; have := O9.out; have := O11.out; have := O12.out; have := O13.out; have := O14.out; have := O15.out; have := O16.out; have := O17.out; omega))
    clear kp b17 R_g_16 X_disk_16 B_16 R_w_16 X_w_16 X_x_16 X_g_16 cX_disk0_16 cX_w0_16 cX_x0_16 cX_g0_16
    have cX_disk0_17 := X_disk_17.out.cell (j := 0) rfl
    have cX_w0_17 := X_w_17.out.cell (j := 0) rfl
    have cX_x0_17 := X_x_17.out.cell (j := 0) rfl
    have cX_g0_17 := X_g_17.out.cell (j := 0) rfl
    have M_17 := hid hm17
    clear hm17
    go_wp2_with fail
    refine (heldDisk_any v8 A.length c8 1 (by omega) hA2 _ M_17.out).mono ?_
    rintro e w18 ⟨rfl, b18⟩
    have O18 := hid b18.size
    have X_disk_18 := hid (X_disk_17.out.on b18 X_disk_17.out.lt)
    have B_18 := hid (below_via B_17.out b18)
    have R_w_18 := hid (R_w_17.out.on b18)
    have X_w_18 := hid (X_w_17.out.on b18 X_w_17.out.lt)
    have X_x_18 := hid (X_x_17.out.on b18 X_x_17.out.lt)
    have X_g_18 := hid (X_g_17.out.on b18 X_g_17.out.lt)
    have M_18 := hid (M_17.out.on b18)
    clear b18 X_disk_17 B_17 R_w_17 X_w_17 X_x_17 X_g_17 M_17 cX_disk0_17 cX_w0_17 cX_x0_17 cX_g0_17
    have cX_disk0_18 := X_disk_18.out.cell (j := 0) rfl
    have cX_w0_18 := X_w_18.out.cell (j := 0) rfl
    have cX_x0_18 := X_x_18.out.cell (j := 0) rfl
    have cX_g0_18 := X_g_18.out.cell (j := 0) rfl
    go_wp2_with fail
    refine (toDisk_o ao l cap hl2 _ (HA.out.on B_18.out)).mono ?_
    rintro e w19 ⟨v19, c19, rfl, h19, b19⟩
    have O19 := hid b19.size
    have Y19 := hid h19
    clear h19
    have X_disk_19 := hid (X_disk_18.out.on b19 X_disk_18.out.lt)
    have B_19 := hid (below_via B_18.out b19)
    have R_w_19 := hid (R_w_18.out.on b19)
    have X_w_19 := hid (X_w_18.out.on b19 X_w_18.out.lt)
    have X_x_19 := hid (X_x_18.out.on b19 X_x_18.out.lt)
    have X_g_19 := hid (X_g_18.out.on b19 X_g_18.out.lt)
    have M_19 := hid (M_18.out.on b19)
    clear b19 X_disk_18 B_18 R_w_18 X_w_18 X_x_18 X_g_18 M_18 cX_disk0_18 cX_w0_18 cX_x0_18 cX_g0_18
    have cX_disk0_19 := X_disk_19.out.cell (j := 0) rfl
    have cX_w0_19 := X_w_19.out.cell (j := 0) rfl
    have cX_x0_19 := X_x_19.out.cell (j := 0) rfl
    have cX_g0_19 := X_g_19.out.cell (j := 0) rfl
    go_wp2_with fail
    refine (toActS_o bo acts bcap hal2 _ (HQ.out.on B_19.out)).mono ?_
    rintro e w20 ⟨g20, rfl, hlo20, hhi20, h20, b20⟩
    have O20 := hid b20.size
    have Y20 := hid h20
    clear h20
    have X_disk_20 := hid (X_disk_19.out.on b20 X_disk_19.out.lt)
    have B_20 := hid (below_via B_19.out b20)
    have R_w_20 := hid (R_w_19.out.on b20)
    have X_w_20 := hid (X_w_19.out.on b20 X_w_19.out.lt)
    have X_x_20 := hid (X_x_19.out.on b20 X_x_19.out.lt)
    have X_g_20 := hid (X_g_19.out.on b20 X_g_19.out.lt)
    have M_20 := hid (M_19.out.on b20)
    have Y19_20 := hid (Y19.out.on b20)
    clear b20 X_disk_19 B_19 R_w_19 X_w_19 X_x_19 X_g_19 M_19 Y19 cX_disk0_19 cX_w0_19 cX_x0_19 cX_g0_19
    have cX_disk0_20 := X_disk_20.out.cell (j := 0) rfl
    have cX_w0_20 := X_w_20.out.cell (j := 0) rfl
    have cX_x0_20 := X_x_20.out.cell (j := 0) rfl
    have cX_g0_20 := X_g_20.out.cell (j := 0) rfl
    have CQ := hid (implDoActs_o _ l c19 _ acts acts.length hl2 HSM.out hal2 HAM.out _ Y19_20.out.files (acts_of Y20.out))
    rw [hF] at CQ
    dsimp only at CQ
    go_wp2_with fail
    refine Calls.mono CQ.out ?_
    rintro e w21 ⟨v21, c21, rfl, h21, b21⟩
    have O21 := hid b21.size
    have R_h := hid h21
    clear h21 CQ
    have X_disk_21 := hid (X_disk_20.out.on b21 X_disk_20.out.lt)
    have B_21 := hid (below_via B_20.out b21)
    have R_w_21 := hid (R_w_20.out.on b21)
    have X_w_21 := hid (X_w_20.out.on b21 X_w_20.out.lt)
    have X_x_21 := hid (X_x_20.out.on b21 X_x_20.out.lt)
    have X_g_21 := hid (X_g_20.out.on b21 X_g_20.out.lt)
    have M_21 := hid (M_20.out.on b21)
    have Y19_21 := hid (Y19_20.out.on b21)
    have Y20_21 := hid (Y20.out.on b21 Y20.out.lt)
    clear b21 X_disk_20 B_20 R_w_20 X_w_20 X_x_20 X_g_20 M_20 Y19_20 Y20 cX_disk0_20 cX_w0_20 cX_x0_20 cX_g0_20
    have cX_disk0_21 := X_disk_21.out.cell (j := 0) rfl
    have cX_w0_21 := X_w_21.out.cell (j := 0) rfl
    have cX_x0_21 := X_x_21.out.cell (j := 0) rfl
    have cX_g0_21 := X_g_21.out.cell (j := 0) rfl
    clear Y19_21
    clear Y20_21
    have ba := below_more (Below.refl w21.heap.size w21) (.cells #[.slice v21 A.length c21] 26)
    have hx : BlockIs (w21.alloc (.cells #[.slice v21 A.length c21] 26)) w21.heap.size 26 [.slice v21 A.length c21] := heap_alloc_new w21 _
    have X_disk_21a := hid (X_disk_21.out.on ba X_disk_21.out.lt)
    have B_21a := hid (below_via B_21.out ba)
    have R_w_21a := hid (R_w_21.out.on ba)
    have X_w_21a := hid (X_w_21.out.on ba X_w_21.out.lt)
    have X_x_21a := hid (X_x_21.out.on ba X_x_21.out.lt)
    have X_g_21a := hid (X_g_21.out.on ba X_g_21.out.lt)
    have M_21a := hid (M_21.out.on ba)
    have R_h_21a := hid (R_h.out.on ba)
    have X_h_21a := hid hx
    have O21a := hid hx.lt
    clear ba hx X_disk_21 B_21 R_w_21 X_w_21 X_x_21 X_g_21 M_21 R_h
    have cX_disk0_21a := X_disk_21a.out.cell (j := 0) rfl
    have cX_w0_21a := X_w_21a.out.cell (j := 0) rfl
    have cX_x0_21a := X_x_21a.out.cell (j := 0) rfl
    have cX_g0_21a := X_g_21a.out.cell (j := 0) rfl
    have cX_h0_21a := X_h_21a.out.cell (j := 0) rfl
    go_wp2_with fail
    refine (eqDisk_o v21 v5 A c21 c5 hA2 _ (R_h_21a.out.files) (R_w_21a.out.files)).mono ?_
    rintro e w22 ⟨rfl, b22⟩
    have O22 := hid b22.size
    have X_disk_22 := hid (X_disk_21a.out.on b22 X_disk_21a.out.lt)
    have B_22 := hid (below_via B_21a.out b22)
    have R_w_22 := hid (R_w_21a.out.on b22)
    have X_w_22 := hid (X_w_21a.out.on b22 X_w_21a.out.lt)
    have X_x_22 := hid (X_x_21a.out.on b22 X_x_21a.out.lt)
    have X_g_22 := hid (X_g_21a.out.on b22 X_g_21a.out.lt)
    have M_22 := hid (M_21a.out.on b22)
    have R_h_22 := hid (R_h_21a.out.on b22)
    have X_h_22 := hid (X_h_21a.out.on b22 X_h_21a.out.lt)
    clear b22 X_disk_21a B_21a R_w_21a X_w_21a X_x_21a X_g_21a M_21a R_h_21a X_h_21a cX_disk0_21a cX_w0_21a cX_x0_21a cX_g0_21a cX_h0_21a cX_disk0_21 cX_w0_21 cX_x0_21 cX_g0_21
    have cX_disk0_22 := X_disk_22.out.cell (j := 0) rfl
    have cX_w0_22 := X_w_22.out.cell (j := 0) rfl
    have cX_x0_22 := X_x_22.out.cell (j := 0) rfl
    have cX_g0_22 := X_g_22.out.cell (j := 0) rfl
    have cX_h0_22 := X_h_22.out.cell (j := 0) rfl
    go_wp2_with fail
    refine (heldDisk_any v8 A.length c8 1 (by omega) hA2 _ M_22.out).mono ?_
    rintro e w23 ⟨rfl, b23⟩
    have O23 := hid b23.size
    have X_disk_23 := hid (X_disk_22.out.on b23 X_disk_22.out.lt)
    have B_23 := hid (below_via B_22.out b23)
    have R_w_23 := hid (R_w_22.out.on b23)
    have X_w_23 := hid (X_w_22.out.on b23 X_w_22.out.lt)
    have X_x_23 := hid (X_x_22.out.on b23 X_x_22.out.lt)
    have X_g_23 := hid (X_g_22.out.on b23 X_g_22.out.lt)
    have M_23 := hid (M_22.out.on b23)
    have R_h_23 := hid (R_h_22.out.on b23)
    have X_h_23 := hid (X_h_22.out.on b23 X_h_22.out.lt)
    clear b23 X_disk_22 B_22 R_w_22 X_w_22 X_x_22 X_g_22 M_22 R_h_22 X_h_22 cX_disk0_22 cX_w0_22 cX_x0_22 cX_g0_22 cX_h0_22
    have cX_disk0_23 := X_disk_23.out.cell (j := 0) rfl
    have cX_w0_23 := X_w_23.out.cell (j := 0) rfl
    have cX_x0_23 := X_x_23.out.cell (j := 0) rfl
    have cX_g0_23 := X_g_23.out.cell (j := 0) rfl
    have cX_h0_23 := X_h_23.out.cell (j := 0) rfl
    go_wp2
    go_ret
    exact ⟨rfl, B_23.out⟩

theorem own : ownKnob Try.prog.godebug = none := by kernel_rfl
theorem laidOut : laidOutB Try.prog = true := by kernel_rfl
theorem rowed : varsRowed Try.prog Rows.fnExactDoActsSpec.vars = true := by kernel_rfl
set_option maxRecDepth 1000000 in
theorem contract (H : Type) (enc : TypeId × Value → H) (W : World) (base : Nat) (args : Array Value) (ds gs : List (DataW H)) (before : List MemPlace)
    (hval : ∀ (j : Nat) t v, Try.f7.params[j]? = some t → args[j]? = some v → Value.okWide Try.prog W .any base t v)
    (hW : DataW.Whole enc Try.prog Try.f7.params.toList Rows.fnExactDoActsSpec.vars false W args.toList ds gs before) (_hL : laidMetH Try.prog Rows.fnExactDoActsRow.laid W) :
    Calls Try.prog 7 args W fun e W' => ∃ v, e = .returned v ∧ Rows.fnExactDoActsSpec.post enc Try.prog Try.f7 false true false false W args v W' := by
  have hW' := hW
  obtain ⟨p, q, hA0, hV0, rfl, hfz, hnd⟩ := hW
  have hV : DataW.TrodVars enc Try.prog W (fun _ => true) Rows.fnExactDoActsSpec.vars gs q := hV0
  have hA : DataW.TrodAll enc Try.prog W 0 (fun _ => true) true Try.f7.params.toList args.toList ds p := hA0
  rw [Try.params7] at hA hval
  obtain ⟨v0, vs0, d0, ds0, p0, q0, hargs0, rfl, rfl, h0, r0⟩ := trodAll_cons hA
  obtain ⟨v1, vs1, d1, ds1, p1, q1, hargs1, rfl, rfl, h1, r1⟩ := trodAll_cons r0
  subst hargs1
  obtain ⟨rfl, rfl, rfl⟩ := trodAll_nil r1
  obtain rfl : args = #[v0, v1] := by cases args; simp_all
  have k0 := h0
  have lt0 : ∀ x ∈ p0, x.block < W.heap.size := by obtain ⟨m, hm⟩ := k0; exact DataW.trod_lt m _ _ _ hm
  obtain ⟨a0, l0, cap0, rfl, hc0, hm0, hat0, hfit0, hkept0⟩ := open_disk (hval 0 51 v0 rfl rfl) h0
  have k1 := h1
  have lt1 : ∀ x ∈ p1, x.block < W.heap.size := by obtain ⟨m, hm⟩ := k1; exact DataW.trod_lt m _ _ _ hm
  obtain ⟨a1, z1, cap1, rfl, hc1, hm1, hat1, hf1⟩ := open_acts (hval 1 60 v1 rfl rfl) h1
  clear hA0 hV0
  obtain ⟨rfl, rfl⟩ := trodVars_none hV
  refine (walk a0 l0 cap0 (Nat.le_trans hc0 hm0) hfit0 hkept0 a1 z1 cap1 (Nat.le_trans hc1 hm1) hf1 W hat0 hat1).mono fun e W' ⟨he, bel⟩ => ?_
  subst he
  exact ⟨_, rfl, _, _, _, [], _, [], hW', trodAll_mk1 (shut_bool Try.underlying4 _), trodAll_cons_mk (Below.trod laidOut (by kernel_rfl) (of_decide_eq_true (by kernel_rfl)) k0 bel lt0) (trodAll_cons_mk (Below.trod laidOut (by kernel_rfl) (of_decide_eq_true (by kernel_rfl)) k1 bel lt1) (trodAll_mk0)), rfl, bel.frame _, fun h => by cases h⟩

def put (cs : Array Value) : Obj → Obj
  | .cells _ t frozen => .cells cs t frozen
  | o => o

/-- a world for the witness: the tables hold what their initialisers lay -/
def laidWorld (w : World) : World := { w with heap := w.heap }
theorem laid_met (os : Os) : laidMet Try.prog Rows.fnExactDoActsRow.laid ((laidWorld (World.holding Try.prog os ⟨#[], #[], []⟩)).forCall (fun _ _ => 0) ⟨#[], #[.agg #[.slice none 0 0], .slice none 0 0], []⟩).memory :=
  laidMet_of_run' 8 (by kernel_rfl) (by kernel_rfl)
theorem reads (os : Os) {H : Type} (enc : TypeId × Value → H) : ∃ places, DataW.whole enc Try.prog ((laidWorld (World.holding Try.prog os ⟨#[], #[], []⟩)).forCall (fun _ _ => 0) ⟨#[], #[.agg #[.slice none 0 0], .slice none 0 0], []⟩).memory Try.f7.params.toList Rows.fnExactDoActsSpec.vars false #[Value.agg #[.slice none 0 0], .slice none 0 0].toList 8 = some ([.agg [.nil], .nil], [], places) :=
  ⟨[], by kernel_rfl⟩

set_option maxRecDepth 1000000 in
theorem lifted (os : Os) (started : os.Started) (H : Type) (enc : TypeId × Value → H) (F : Stop.Interp) :
    ReturnsInHanded {} Try.checked os 7 .any ((OpenSpec.ofChange Rows.fnExactDoActsSpec).preRow enc Try.prog Try.f7 Rows.fnExactDoActsRow.domain false Rows.fnExactDoActsRow.laid) (((OpenSpec.ofChange Rows.fnExactDoActsSpec).at F).post enc Try.prog Try.f7 false true false false) := by
  obtain ⟨places, hx⟩ := reads os enc
  refine returnsInHanded_of_row (C := Try.checked) (s := OpenSpec.ofChange Rows.fnExactDoActsSpec) own started (by kernel_rfl) Try.func7
    (witness_row_at (enc := enc) (C := Try.checked) false (laidWorld (World.holding Try.prog os ⟨#[], #[], []⟩)) #[.agg #[.slice none 0 0], .slice none 0 0] rfl (by kernel_rfl) (by kernel_rfl) (by kernel_rfl)
      (OpenSpec.preRow_of_cond 8 hx (by kernel_rfl) (fun k hk => by cases hk) (by kernel_rfl) (laid_met os))) ?_
  intro W base args ds gs before hval hW _ _ _ hL _ _
  exact contract H enc W base args ds gs before hval hW hL

theorem said : Rows.FnExactDoActsSaid :=
  OpenClaim.holds_of_cond 7 Try.f7 rfl rfl rfl rfl rfl rfl rfl ⟨rfl, rfl, rfl, rfl, rfl⟩ rfl rfl rfl rfl rfl (by kernel_rfl) Try.func7 (by kernel_rfl)
    (of_decide_eq_true (by kernel_rfl)) (by unfold Func.isWrapper; first | (rw [if_pos (by decide +kernel)]; kernel_rfl) | (rw [if_neg (by decide +kernel)]; exact ⟨rfl, rfl⟩))
    (fun os started H enc _ F => by rw [OpenClaim.pre_eq_preRow]; exact lifted os started H enc F)

end Go.Proofs.Ythkfgiilbkjojaa.fnExactDoActs
