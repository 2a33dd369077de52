/-
  For every argument, laws.FnExactLoseDisk returns true: impl.LoseDisk and spec.LoseDisk answer alike, no argument is written, the answer owns its memory; nothing that was in memory is written.
-/
import Derived.Test.YthkfgiilbkjojaaRows
import Derived.Test.YthkfgiilbkjojaaOpenDisk
import Derived.Test.YthkfgiilbkjojaaOpenInts
import Derived.Test.YthkfgiilbkjojaaExactInts
import Derived.Test.YthkfgiilbkjojaaLoseBothI
import Derived.Deep.RegionWith
import Derived.WalkSmall
import Derived.WalkKit
import Derived.ProofKit
import Derived.OpenShut
import Derived.OpenVars
import Derived.Deep.DeepHandedRow
import Derived.Lib.LaidTab
import Derived.Stop.LaidErr
namespace Go.Proofs.Ythkfgiilbkjojaa.fnExactLoseDisk
open Go.ChangeShapes Go.WideShapes Go.ChangeAt Go.ChangeMaps Go.RowKit

set_option maxRecDepth 1000000 in
set_option maxHeartbeats 8000000 in
theorem walk (ao : Option Addr) (l : List FileD) (cap : Nat) (hl : l.length ≤ maxLen) (hf : FilesFit l) (_hk : KeptFit l) (lo : Option Addr) (zs : List Int) (lcap : Nat) (_hzl : zs.length ≤ maxLen) (_hzf : IntsFit zs) (w : World) (ha : FilesAt w ao l) (hz : IntsAt w lo zs) :
    Calls Try.prog 8 #[.agg #[.slice ao l.length cap], .slice lo zs.length lcap] w fun e w' => e = .returned (.bool true) ∧ Below w.heap.size w w' := by
  have HA := hid ha
  have HZ := hid hz
  have X_disk := (show Hid (BlockIs (w.alloc (.cells #[.slice ao l.length cap] 51)) w.heap.size 51 [.slice ao l.length cap]) from heap_alloc_new w _)
  have HB := hid (below_more (Below.refl w.heap.size w) (.cells #[.slice ao l.length cap] 51))
  have O0 := hid X_disk.out.lt
  clear ha hz
  by_cases hbig : (1048576 : Int) < (zs.length : Int)
  · go_enter Try.func8, Try.ntmps8
    go_wp2
    go_ret
    exact ⟨rfl, HB.out⟩
  have hzl2 : zs.length ≤ 1048576 := by omega
  go_enter Try.func8, Try.ntmps8
  go_wp2_with fail
  refine (szDisk_any ao l cap 1048576 (by omega) (by omega) hl hf _ (HA.out.on HB.out)).mono ?_
  rintro e w1 ⟨hor, b1⟩
  have O1 := hid b1.size
  have X_disk_1 := hid (X_disk.out.on b1 X_disk.out.lt)
  have B_1 := hid (below_via HB.out b1)
  clear b1 X_disk HB
  have cX_disk0_1 := X_disk_1.out.cell (j := 0) rfl
  rcases hor with ⟨hneg, rfl⟩ | ⟨hnn, rfl⟩
  · go_wp2
    go_ret
    exact ⟨rfl, B_1.out⟩
  have hl2 := (filesSmall hnn).1
  have HSM := hid (filesSmall hnn).2
  clear hf hl
  obtain ⟨A, ok, hF⟩ : ∃ A ok, loseAns l zs = (A, ok) := ⟨_, _, rfl⟩
  have hA2 : A.length ≤ 1048576 := by have := loseAns_small (zs := zs) hl2; rw [hF] at this; exact this
  go_wp2_with fail
  refine (toDisk_o ao l cap hl2 _ (HA.out.on B_1.out)).mono ?_
  rintro e w2 ⟨v2, c2, rfl, h2, b2⟩
  have O2 := hid b2.size
  have Y2 := hid h2
  clear h2
  have X_disk_2 := hid (X_disk_1.out.on b2 X_disk_1.out.lt)
  have B_2 := hid (below_via B_1.out b2)
  clear b2 X_disk_1 B_1 cX_disk0_1
  have cX_disk0_2 := X_disk_2.out.cell (j := 0) rfl
  go_wp2_with fail
  refine (toIntS_o lo zs lcap hzl2 _ (HZ.out.on B_2.out)).mono ?_
  rintro e w3 ⟨g3, rfl, hlo3, hhi3, h3, b3⟩
  have O3 := hid b3.size
  have Y3 := hid h3
  clear h3
  have X_disk_3 := hid (X_disk_2.out.on b3 X_disk_2.out.lt)
  have B_3 := hid (below_via B_2.out b3)
  have Y2_3 := hid (Y2.out.on b3)
  clear b3 X_disk_2 B_2 Y2 cX_disk0_2
  have cX_disk0_3 := X_disk_3.out.cell (j := 0) rfl
  have CQ := hid (specLoseDisk_o _ l c2 _ zs zs.length hl2 hzl2 _ Y2_3.out.files (ints_of Y3.out))
  rw [hF] at CQ
  dsimp only at CQ
  go_wp2_with fail
  refine Calls.mono CQ.out ?_
  rintro e w4 ⟨v4, c4, rfl, h4, b4⟩
  have O4 := hid b4.size
  have R_w := hid h4
  clear h4 CQ
  have X_disk_4 := hid (X_disk_3.out.on b4 X_disk_3.out.lt)
  have B_4 := hid (below_via B_3.out b4)
  have Y2_4 := hid (Y2_3.out.on b4)
  have Y3_4 := hid (Y3.out.on b4 Y3.out.lt)
  clear b4 X_disk_3 B_3 Y2_3 Y3 cX_disk0_3
  have cX_disk0_4 := X_disk_4.out.cell (j := 0) rfl
  clear Y2_4
  clear Y3_4
  have ba := below_more (Below.refl w4.heap.size w4) (.cells #[.slice v4 A.length c4] 26)
  have hx : BlockIs (w4.alloc (.cells #[.slice v4 A.length c4] 26)) w4.heap.size 26 [.slice v4 A.length c4] := heap_alloc_new w4 _
  have X_disk_4a := hid (X_disk_4.out.on ba X_disk_4.out.lt)
  have B_4a := hid (below_via B_4.out ba)
  have R_w_4a := hid (R_w.out.on ba)
  have X_w_4a := hid hx
  have O4a := hid hx.lt
  clear ba hx X_disk_4 B_4 R_w
  have cX_disk0_4a := X_disk_4a.out.cell (j := 0) rfl
  have cX_w0_4a := X_w_4a.out.cell (j := 0) rfl
  go_wp2_with fail
  refine (toDisk_o ao l cap hl2 _ (HA.out.on B_4a.out)).mono ?_
  rintro e w5 ⟨v5, c5, rfl, h5, b5⟩
  have O5 := hid b5.size
  have Y5 := hid h5
  clear h5
  have X_disk_5 := hid (X_disk_4a.out.on b5 X_disk_4a.out.lt)
  have B_5 := hid (below_via B_4a.out b5)
  have R_w_5 := hid (R_w_4a.out.on b5)
  have X_w_5 := hid (X_w_4a.out.on b5 X_w_4a.out.lt)
  clear b5 X_disk_4a B_4a R_w_4a X_w_4a cX_disk0_4a cX_w0_4a cX_disk0_4
  have cX_disk0_5 := X_disk_5.out.cell (j := 0) rfl
  have cX_w0_5 := X_w_5.out.cell (j := 0) rfl
  have ba := below_more (Below.refl w5.heap.size w5) (.cells #[.slice v5 l.length c5] 26)
  have hx : BlockIs (w5.alloc (.cells #[.slice v5 l.length c5] 26)) w5.heap.size 26 [.slice v5 l.length c5] := heap_alloc_new w5 _
  have X_disk_5a := hid (X_disk_5.out.on ba X_disk_5.out.lt)
  have B_5a := hid (below_via B_5.out ba)
  have R_w_5a := hid (R_w_5.out.on ba)
  have X_w_5a := hid (X_w_5.out.on ba X_w_5.out.lt)
  have Y5_5a := hid (Y5.out.on ba)
  have X_x_5a := hid hx
  have O5a := hid hx.lt
  clear ba hx X_disk_5 B_5 R_w_5 X_w_5 Y5
  have cX_disk0_5a := X_disk_5a.out.cell (j := 0) rfl
  have cX_w0_5a := X_w_5a.out.cell (j := 0) rfl
  have cX_x0_5a := X_x_5a.out.cell (j := 0) rfl
  go_wp2_with fail
  refine (toIntS_o lo zs lcap hzl2 _ (HZ.out.on B_5a.out)).mono ?_
  rintro e w6 ⟨g6, rfl, hlo6, hhi6, h6, b6⟩
  have O6 := hid b6.size
  have Y6 := hid h6
  clear h6
  have X_disk_6 := hid (X_disk_5a.out.on b6 X_disk_5a.out.lt)
  have B_6 := hid (below_via B_5a.out b6)
  have R_w_6 := hid (R_w_5a.out.on b6)
  have X_w_6 := hid (X_w_5a.out.on b6 X_w_5a.out.lt)
  have Y5_6 := hid (Y5_5a.out.on b6)
  have X_x_6 := hid (X_x_5a.out.on b6 X_x_5a.out.lt)
  clear b6 X_disk_5a B_5a R_w_5a X_w_5a Y5_5a X_x_5a cX_disk0_5a cX_w0_5a cX_x0_5a cX_disk0_5 cX_w0_5
  have cX_disk0_6 := X_disk_6.out.cell (j := 0) rfl
  have cX_w0_6 := X_w_6.out.cell (j := 0) rfl
  have cX_x0_6 := X_x_6.out.cell (j := 0) rfl
  have CQ := hid (implLoseDisk_o _ l c5 _ zs zs.length hl2 hzl2 _ Y5_6.out.files (ints_of Y6.out))
  rw [hF] at CQ
  dsimp only at CQ
  go_wp2_with fail
  refine Calls.mono CQ.out ?_
  rintro e w7 ⟨v7, c7, rfl, h7, b7⟩
  have O7 := hid b7.size
  have R_g := hid h7
  clear h7 CQ
  have X_disk_7 := hid (X_disk_6.out.on b7 X_disk_6.out.lt)
  have B_7 := hid (below_via B_6.out b7)
  have R_w_7 := hid (R_w_6.out.on b7)
  have X_w_7 := hid (X_w_6.out.on b7 X_w_6.out.lt)
  have Y5_7 := hid (Y5_6.out.on b7)
  have X_x_7 := hid (X_x_6.out.on b7 X_x_6.out.lt)
  have Y6_7 := hid (Y6.out.on b7 Y6.out.lt)
  clear b7 X_disk_6 B_6 R_w_6 X_w_6 Y5_6 X_x_6 Y6 cX_disk0_6 cX_w0_6 cX_x0_6
  have cX_disk0_7 := X_disk_7.out.cell (j := 0) rfl
  have cX_w0_7 := X_w_7.out.cell (j := 0) rfl
  have cX_x0_7 := X_x_7.out.cell (j := 0) rfl
  have ba := below_more (Below.refl w7.heap.size w7) (.cells #[.slice v7 A.length c7] 26)
  have hx : BlockIs (w7.alloc (.cells #[.slice v7 A.length c7] 26)) w7.heap.size 26 [.slice v7 A.length c7] := heap_alloc_new w7 _
  have X_disk_7a := hid (X_disk_7.out.on ba X_disk_7.out.lt)
  have B_7a := hid (below_via B_7.out ba)
  have R_w_7a := hid (R_w_7.out.on ba)
  have X_w_7a := hid (X_w_7.out.on ba X_w_7.out.lt)
  have Y5_7a := hid (Y5_7.out.on ba)
  have X_x_7a := hid (X_x_7.out.on ba X_x_7.out.lt)
  have Y6_7a := hid (Y6_7.out.on ba Y6_7.out.lt)
  have R_g_7a := hid (R_g.out.on ba)
  have X_g_7a := hid hx
  have O7a := hid hx.lt
  clear ba hx X_disk_7 B_7 R_w_7 X_w_7 Y5_7 X_x_7 Y6_7 R_g
  have cX_disk0_7a := X_disk_7a.out.cell (j := 0) rfl
  have cX_w0_7a := X_w_7a.out.cell (j := 0) rfl
  have cX_x0_7a := X_x_7a.out.cell (j := 0) rfl
  have cX_g0_7a := X_g_7a.out.cell (j := 0) rfl
  go_wp2_with fail
  refine (eqDisk_o v7 v4 A c7 c4 hA2 _ (R_g_7a.out.files) (R_w_7a.out.files)).mono ?_
  rintro e w8 ⟨rfl, b8⟩
  have O8 := hid b8.size
  have X_disk_8 := hid (X_disk_7a.out.on b8 X_disk_7a.out.lt)
  have B_8 := hid (below_via B_7a.out b8)
  have R_w_8 := hid (R_w_7a.out.on b8)
  have X_w_8 := hid (X_w_7a.out.on b8 X_w_7a.out.lt)
  have Y5_8 := hid (Y5_7a.out.on b8)
  have X_x_8 := hid (X_x_7a.out.on b8 X_x_7a.out.lt)
  have Y6_8 := hid (Y6_7a.out.on b8 Y6_7a.out.lt)
  have R_g_8 := hid (R_g_7a.out.on b8)
  have X_g_8 := hid (X_g_7a.out.on b8 X_g_7a.out.lt)
  clear b8 X_disk_7a B_7a R_w_7a X_w_7a Y5_7a X_x_7a Y6_7a R_g_7a X_g_7a cX_disk0_7a cX_w0_7a cX_x0_7a cX_g0_7a cX_disk0_7 cX_w0_7 cX_x0_7
  have cX_disk0_8 := X_disk_8.out.cell (j := 0) rfl
  have cX_w0_8 := X_w_8.out.cell (j := 0) rfl
  have cX_x0_8 := X_x_8.out.cell (j := 0) rfl
  have cX_g0_8 := X_g_8.out.cell (j := 0) rfl
  have CT : Hid (Calls Try.prog 27 #[.agg #[.slice ao l.length cap]] w8.drew fun e w9 => ∃ v9 c9, e = .returned (.agg #[.slice v9 l.length c9]) ∧ w9.cell? ⟨w5.heap.size, 0, none⟩ = some (.slice v5 l.length c5) ∧ Hid (Below w8.heap.size w8 w9 ∧ FilesAt w9 v9 l)) := by
    have hd : Below w8.heap.size w8 w8.drew := below_drewN (Below.refl w8.heap.size w8) 1
    refine Calls.mono (toDisk_o ao l cap hl2 w8.drew (HA.out.on (below_via B_8.out hd))) ?_
    rintro e w9 ⟨v9, c9, rfl, h9, b9⟩
    have h67 := below_via hd b9
    exact ⟨v9, c9, rfl, (X_x_8.out.on h67 X_x_8.out.lt).cell (j := 0) rfl, h67, h9.files⟩
  go_wp2
  go_region_with (first | (go_at_call 27; refine Calls.mono CT.out ?_; rintro e w9 ⟨v9, c9, rfl, y9, H9⟩) | (go_at_call 28; refine (eqDisk_o _ _ l _ _ hl2 _ ((Y5_8.out.on H9.out.1).files) H9.out.2).mono ?_; rintro e w10 ⟨rfl, b10⟩))
  all_goals
    have bb := below_via H9.out.1 b10
    have O10 := hid bb.size
    have X_disk_10 := hid (X_disk_8.out.on bb X_disk_8.out.lt)
    have B_10 := hid (below_via B_8.out bb)
    have R_w_10 := hid (R_w_8.out.on bb)
    have X_w_10 := hid (X_w_8.out.on bb X_w_8.out.lt)
    have Y5_10 := hid (Y5_8.out.on bb)
    have X_x_10 := hid (X_x_8.out.on bb X_x_8.out.lt)
    have Y6_10 := hid (Y6_8.out.on bb Y6_8.out.lt)
    have R_g_10 := hid (R_g_8.out.on bb)
    have X_g_10 := hid (X_g_8.out.on bb X_g_8.out.lt)
    clear bb b10 H9 CT y9 X_disk_8 B_8 R_w_8 X_w_8 Y5_8 X_x_8 Y6_8 R_g_8 X_g_8 cX_disk0_8 cX_w0_8 cX_x0_8 cX_g0_8
    have cX_disk0_10 := X_disk_10.out.cell (j := 0) rfl
    have cX_w0_10 := X_w_10.out.cell (j := 0) rfl
    have cX_x0_10 := X_x_10.out.cell (j := 0) rfl
    have cX_g0_10 := X_g_10.out.cell (j := 0) rfl
    go_wp2_with fail
    refine (toIntS_o lo zs lcap hzl2 _ (HZ.out.on B_10.out)).mono ?_
    rintro e w11 ⟨g11, rfl, hlo11, hhi11, h11, b11⟩
    have O11 := hid b11.size
    have Y11 := hid h11
    clear h11
    have X_disk_11 := hid (X_disk_10.out.on b11 X_disk_10.out.lt)
    have B_11 := hid (below_via B_10.out b11)
    have R_w_11 := hid (R_w_10.out.on b11)
    have X_w_11 := hid (X_w_10.out.on b11 X_w_10.out.lt)
    have Y5_11 := hid (Y5_10.out.on b11)
    have X_x_11 := hid (X_x_10.out.on b11 X_x_10.out.lt)
    have Y6_11 := hid (Y6_10.out.on b11 Y6_10.out.lt)
    have R_g_11 := hid (R_g_10.out.on b11)
    have X_g_11 := hid (X_g_10.out.on b11 X_g_10.out.lt)
    clear b11 X_disk_10 B_10 R_w_10 X_w_10 Y5_10 X_x_10 Y6_10 R_g_10 X_g_10 cX_disk0_10 cX_w0_10 cX_x0_10 cX_g0_10
    have cX_disk0_11 := X_disk_11.out.cell (j := 0) rfl
    have cX_w0_11 := X_w_11.out.cell (j := 0) rfl
    have cX_x0_11 := X_x_11.out.cell (j := 0) rfl
    have cX_g0_11 := X_g_11.out.cell (j := 0) rfl
    go_wp2_with fail
    refine (eqIntS_same _ _ zs _ _ (by omega) _ (ints_of Y6_11.out) (ints_of Y11.out)).mono ?_
    rintro e w12 ⟨rfl, b12⟩
    have O12 := hid b12.size
    have X_disk_12 := hid (X_disk_11.out.on b12 X_disk_11.out.lt)
    have B_12 := hid (below_via B_11.out b12)
    have R_w_12 := hid (R_w_11.out.on b12)
    have X_w_12 := hid (X_w_11.out.on b12 X_w_11.out.lt)
    have Y5_12 := hid (Y5_11.out.on b12)
    have X_x_12 := hid (X_x_11.out.on b12 X_x_11.out.lt)
    have Y6_12 := hid (Y6_11.out.on b12 Y6_11.out.lt)
    have R_g_12 := hid (R_g_11.out.on b12)
    have X_g_12 := hid (X_g_11.out.on b12 X_g_11.out.lt)
    have Y11_12 := hid (Y11.out.on b12 Y11.out.lt)
    clear b12 X_disk_11 B_11 R_w_11 X_w_11 Y5_11 X_x_11 Y6_11 R_g_11 X_g_11 Y11 cX_disk0_11 cX_w0_11 cX_x0_11 cX_g0_11
    have cX_disk0_12 := X_disk_12.out.cell (j := 0) rfl
    have cX_w0_12 := X_w_12.out.cell (j := 0) rfl
    have cX_x0_12 := X_x_12.out.cell (j := 0) rfl
    have cX_g0_12 := X_g_12.out.cell (j := 0) rfl
    clear Y11_12
    go_wp2_with fail
    refine (markDisk_o (1) v5 c5 l ((w4.alloc (.cells #[.slice v4 A.length c4] 26)).heap.size) w5.heap.size (by omega) (by omega) _ (by have := O0.out; have := O1.out; have := O2.out; have := O3.out; have := O4.out; have := O4a.out; have := O5.out; have := O5a.out; have := O6.out; have := O7.out; have := O7a.out; have := O8.out; have := O10.out; have := O11.out; have := O12.out; omega) Y5_12.out).mono ?_
    rintro e w13 ⟨rfl, hm13, kp, b13⟩
    have O13 := hid b13.size
    have X_disk_13 := hid (X_disk_12.out.kept kp (by have := O0.out; have := O1.out; have := O2.out; have := O3.out; have := O4.out; have := O4a.out; have := O5.out; have := O5a.out; have := O6.out; have := O7.out; have := O7a.out; have := O8.out; have := O10.out; have := O11.out; have := O12.out; have := O13.out; omega))
    have B_13 := hid (B_12.out.trans (b13.mono (by have := O0.out; have := O1.out; have := O2.out; have := O3.out; have := O4.out; have := O4a.out; have := O5.out; have := O5a.out; have := O6.out; have := O7.out; have := O7a.out; have := O8.out; have := O10.out; have := O11.out; have := O12.out; have := O13.out; omega)))
    have R_w_13 := hid (R_w_12.out.kept kp (by have := O0.out; have := O1.out; have := O2.out; have := O3.out; have := O4.out; have := O4a.out; have := O5.out; have := O5a.out; have := O6.out; have := O7.out; have := O7a.out; have := O8.out; have := O10.out; have := O11.out; have := O12.out; have := O13.out; omega))
    have X_w_13 := hid (X_w_12.out.kept kp (by have := O0.out; have := O1.out; have := O2.out; have := O3.out; have := O4.out; have := O4a.out; have := O5.out; have := O5a.out; have := O6.out; have := O7.out; have := O7a.out; have := O8.out; have := O10.out; have := O11.out; have := O12.out; have := O13.out; omega))
    have X_x_13 := hid (X_x_12.out.kept kp (by have := O0.out; have := O1.out; have := O2.out; have := O3.out; have := O4.out; have := O4a.out; have := O5.out; have := O5a.out; have := O6.out; have := O7.out; have := O7a.out; have := O8.out; have := O10.out; have := O11.out; have := O12.out; have := O13.out; omega))
    have Y6_13 := hid (Y6_12.out.kept kp (by have := O0.out; have := O1.out; have := O2.out; have := O3.out; have := O4.out; have := O4a.out; have := O5.out; have := O5a.out; have := O6.out; have := O7.out; have := O7a.out; have := O8.out; have := O10.out; have := O11.out; have := O12.out; have := O13.out; omega))
    have R_g_13 := hid (R_g_12.out.kept kp (by have := O0.out; have := O1.out; have := O2.out; have := O3.out; have := O4.out; have := O4a.out; have := O5.out; have := O5a.out; have := O6.out; have := O7.out; have := O7a.out; have := O8.out; have := O10.out; have := O11.out; have := O12.out; have := O13.out; omega))
    have X_g_13 := hid (X_g_12.out.kept kp (by have := O0.out; have := O1.out; have := O2.out; have := O3.out; have := O4.out; have := O4a.out; have := O5.out; have := O5a.out; have := O6.out; have := O7.out; have := O7a.out; have := O8.out; have := O10.out; have := O11.out; have := O12.out; have := O13.out; omega))
    clear kp b13 Y5_12 X_disk_12 B_12 R_w_12 X_w_12 X_x_12 Y6_12 R_g_12 X_g_12 cX_disk0_12 cX_w0_12 cX_x0_12 cX_g0_12
    have cX_disk0_13 := X_disk_13.out.cell (j := 0) rfl
    have cX_w0_13 := X_w_13.out.cell (j := 0) rfl
    have cX_x0_13 := X_x_13.out.cell (j := 0) rfl
    have cX_g0_13 := X_g_13.out.cell (j := 0) rfl
    clear hm13
    go_wp2_with fail
    refine (markIntS_o g6 zs _ (1 + 3 * l.length) (by omega) hzl2 _ Y6_13.out).mono ?_
    rintro e w14 ⟨rfl, kp, b14⟩
    have O14 := hid b14.size
    have X_disk_14 := hid (X_disk_13.out.kept kp (by have := O0.out; have := O1.out; have := O2.out; have := O3.out; have := O4.out; have := O4a.out; have := O5.out; have := O5a.out; have := O6.out; have := O7.out; have := O7a.out; have := O8.out; have := O10.out; have := O11.out; have := O12.out; have := O13.out; have := O14.out; omega))
    have B_14 := hid (B_13.out.trans (b14.mono (by have := O0.out; have := O1.out; have := O2.out; have := O3.out; have := O4.out; have := O4a.out; have := O5.out; have := O5a.out; have := O6.out; have := O7.out; have := O7a.out; have := O8.out; have := O10.out; have := O11.out; have := O12.out; have := O13.out; have := O14.out; omega)))
    have R_w_14 := hid (R_w_13.out.kept kp (by have := O0.out; have := O1.out; have := O2.out; have := O3.out; have := O4.out; have := O4a.out; have := O5.out; have := O5a.out; have := O6.out; have := O7.out; have := O7a.out; have := O8.out; have := O10.out; have := O11.out; have := O12.out; have := O13.out; have := O14.out; omega))
    have X_w_14 := hid (X_w_13.out.kept kp (by have := O0.out; have := O1.out; have := O2.out; have := O3.out; have := O4.out; have := O4a.out; have := O5.out; have := O5a.out; have := O6.out; have := O7.out; have := O7a.out; have := O8.out; have := O10.out; have := O11.out; have := O12.out; have := O13.out; have := O14.out; omega))
    have X_x_14 := hid (X_x_13.out.kept kp (by have := O0.out; have := O1.out; have := O2.out; have := O3.out; have := O4.out; have := O4a.out; have := O5.out; have := O5a.out; have := O6.out; have := O7.out; have := O7a.out; have := O8.out; have := O10.out; have := O11.out; have := O12.out; have := O13.out; have := O14.out; omega))
    have R_g_14 := hid (R_g_13.out.kept kp (by have := O0.out; have := O1.out; have := O2.out; have := O3.out; have := O4.out; have := O4a.out; have := O5.out; have := O5a.out; have := O6.out; have := O7.out; have := O7a.out; have := O8.out; have := O10.out; have := O11.out; have := O12.out; have := O13.out; have := O14.out; omega))
    have X_g_14 := hid (X_g_13.out.kept kp (by have := O0.out; have := O1.out; have := O2.out; have := O3.out; have := O4.out; have := O4a.out; have := O5.out; have := O5a.out; have := O6.out; have := O7.out; have := O7a.out; have := O8.out; have := O10.out; have := O11.out; have := O12.out; have := O13.out; have := O14.out; omega))
    clear kp b14 Y6_13 X_disk_13 B_13 R_w_13 X_w_13 X_x_13 R_g_13 X_g_13 cX_disk0_13 cX_w0_13 cX_x0_13 cX_g0_13
    have cX_disk0_14 := X_disk_14.out.cell (j := 0) rfl
    have cX_w0_14 := X_w_14.out.cell (j := 0) rfl
    have cX_x0_14 := X_x_14.out.cell (j := 0) rfl
    have cX_g0_14 := X_g_14.out.cell (j := 0) rfl
    go_wp2_with fail
    refine (eqDisk_o v7 v4 A c7 c4 hA2 _ (R_g_14.out.files) (R_w_14.out.files)).mono ?_
    rintro e w15 ⟨rfl, b15⟩
    have O15 := hid b15.size
    have X_disk_15 := hid (X_disk_14.out.on b15 X_disk_14.out.lt)
    have B_15 := hid (below_via B_14.out b15)
    have R_w_15 := hid (R_w_14.out.on b15)
    have X_w_15 := hid (X_w_14.out.on b15 X_w_14.out.lt)
    have X_x_15 := hid (X_x_14.out.on b15 X_x_14.out.lt)
    have R_g_15 := hid (R_g_14.out.on b15)
    have X_g_15 := hid (X_g_14.out.on b15 X_g_14.out.lt)
    clear b15 X_disk_14 B_14 R_w_14 X_w_14 X_x_14 R_g_14 X_g_14 cX_disk0_14 cX_w0_14 cX_x0_14 cX_g0_14
    have cX_disk0_15 := X_disk_15.out.cell (j := 0) rfl
    have cX_w0_15 := X_w_15.out.cell (j := 0) rfl
    have cX_x0_15 := X_x_15.out.cell (j := 0) rfl
    have cX_g0_15 := X_g_15.out.cell (j := 0) rfl
    go_wp2_with fail
    refine (markDisk_o 1 v7 c7 A (w6.heap.size) w7.heap.size (by omega) (by omega) _ (by have := O0.out; have := O1.out; have := O2.out; have := O3.out; have := O4.out; have := O4a.out; have := O5.out; have := O5a.out; have := O6.out; have := O7.out; have := O7a.out; have := O8.out; have := O10.out; have := O11.out; have := O12.out; have := O13.out; have := O14.out; have := O15.out; omega) R_g_15.out).mono ?_
    rintro e w16 ⟨rfl, hm16, kp, b16⟩
    have O16 := hid b16.size
    have X_disk_16 := hid (X_disk_15.out.kept kp (by have := O0.out; have := O1.out; have := O2.out; have := O3.out; have := O4.out; have := O4a.out; have := O5.out; have := O5a.out; have := O6.out; have := O7.out; have := O7a.out; have := O8.out; have := O10.out; have := O11.out; have := O12.out; have := O13.out; have := O14.out; have := O15.out; have := O16.out; omega))
    have B_16 := hid (B_15.out.trans (b16.mono (by have := O0.out; have := O1.out; have := O2.out; have := O3.out; have := O4.out; have := O4a.out; have := O5.out; have := O5a.out; have := O6.out; have := O7.out; have := O7a.out; have := O8.out; have := O10.out; have := O11.out; have := O12.out; have := O13.out; have := O14.out; have := O15.out; have := O16.out; omega)))
    have R_w_16 := hid (R_w_15.out.kept kp (by have := O0.out; have := O1.out; have := O2.out; have := O3.out; have := O4.out; have := O4a.out; have := O5.out; have := O5a.out; have := O6.out; have := O7.out; have := O7a.out; have := O8.out; have := O10.out; have := O11.out; have := O12.out; have := O13.out; have := O14.out; have := O15.out; have := O16.out; omega))
    have X_w_16 := hid (X_w_15.out.kept kp (by have := O0.out; have := O1.out; have := O2.out; have := O3.out; have := O4.out; have := O4a.out; have := O5.out; have := O5a.out; have := O6.out; have := O7.out; have := O7a.out; have := O8.out; have := O10.out; have := O11.out; have := O12.out; have := O13.out; have := O14.out; have := O15.out; have := O16.out; omega))
    have X_x_16 := hid (X_x_15.out.kept kp (by have := O0.out; have := O1.out; have := O2.out; have := O3.out; have := O4.out; have := O4a.out; have := O5.out; have := O5a.out; have := O6.out; have := O7.out; have := O7a.out; have := O8.out; have := O10.out; have := O11.out; have := O12.out; have := O13.out; have := O14.out; have := O15.out; have := O16.out; omega))
    have X_g_16 := hid (X_g_15.out.kept kp (by have := O0.out; have := O1.out; have := O2.out; have := O3.out; have := O4.out; have := O4a.out; have := O5.out; have := O5a.out; have := O6.out; have := O7.out; have := O7a.out; have := O8.out; have := O10.out; have := O11.out; have := O12.out; have := O13.out; have := O14.out; have := O15.out; have := O16.out; omega))
    clear kp b16 R_g_15 X_disk_15 B_15 R_w_15 X_w_15 X_x_15 X_g_15 cX_disk0_15 cX_w0_15 cX_x0_15 cX_g0_15
    have cX_disk0_16 := X_disk_16.out.cell (j := 0) rfl
    have cX_w0_16 := X_w_16.out.cell (j := 0) rfl
    have cX_x0_16 := X_x_16.out.cell (j := 0) rfl
    have cX_g0_16 := X_g_16.out.cell (j := 0) rfl
    have M_16 := hid hm16
    clear hm16
    go_wp2_with fail
    refine (heldDisk_any v7 A.length c7 1 (by omega) hA2 _ M_16.out).mono ?_
    rintro e w17 ⟨rfl, b17⟩
    have O17 := hid b17.size
    have X_disk_17 := hid (X_disk_16.out.on b17 X_disk_16.out.lt)
    have B_17 := hid (below_via B_16.out b17)
    have R_w_17 := hid (R_w_16.out.on b17)
    have X_w_17 := hid (X_w_16.out.on b17 X_w_16.out.lt)
    have X_x_17 := hid (X_x_16.out.on b17 X_x_16.out.lt)
    have X_g_17 := hid (X_g_16.out.on b17 X_g_16.out.lt)
    have M_17 := hid (M_16.out.on b17)
    clear b17 X_disk_16 B_16 R_w_16 X_w_16 X_x_16 X_g_16 M_16 cX_disk0_16 cX_w0_16 cX_x0_16 cX_g0_16
    have cX_disk0_17 := X_disk_17.out.cell (j := 0) rfl
    have cX_w0_17 := X_w_17.out.cell (j := 0) rfl
    have cX_x0_17 := X_x_17.out.cell (j := 0) rfl
    have cX_g0_17 := X_g_17.out.cell (j := 0) rfl
    go_wp2_with fail
    refine (toDisk_o ao l cap hl2 _ (HA.out.on B_17.out)).mono ?_
    rintro e w18 ⟨v18, c18, rfl, h18, b18⟩
    have O18 := hid b18.size
    have Y18 := hid h18
    clear h18
    have X_disk_18 := hid (X_disk_17.out.on b18 X_disk_17.out.lt)
    have B_18 := hid (below_via B_17.out b18)
    have R_w_18 := hid (R_w_17.out.on b18)
    have X_w_18 := hid (X_w_17.out.on b18 X_w_17.out.lt)
    have X_x_18 := hid (X_x_17.out.on b18 X_x_17.out.lt)
    have X_g_18 := hid (X_g_17.out.on b18 X_g_17.out.lt)
    have M_18 := hid (M_17.out.on b18)
    clear b18 X_disk_17 B_17 R_w_17 X_w_17 X_x_17 X_g_17 M_17 cX_disk0_17 cX_w0_17 cX_x0_17 cX_g0_17
    have cX_disk0_18 := X_disk_18.out.cell (j := 0) rfl
    have cX_w0_18 := X_w_18.out.cell (j := 0) rfl
    have cX_x0_18 := X_x_18.out.cell (j := 0) rfl
    have cX_g0_18 := X_g_18.out.cell (j := 0) rfl
    go_wp2_with fail
    refine (toIntS_o lo zs lcap hzl2 _ (HZ.out.on B_18.out)).mono ?_
    rintro e w19 ⟨g19, rfl, hlo19, hhi19, h19, b19⟩
    have O19 := hid b19.size
    have Y19 := hid h19
    clear h19
    have X_disk_19 := hid (X_disk_18.out.on b19 X_disk_18.out.lt)
    have B_19 := hid (below_via B_18.out b19)
    have R_w_19 := hid (R_w_18.out.on b19)
    have X_w_19 := hid (X_w_18.out.on b19 X_w_18.out.lt)
    have X_x_19 := hid (X_x_18.out.on b19 X_x_18.out.lt)
    have X_g_19 := hid (X_g_18.out.on b19 X_g_18.out.lt)
    have M_19 := hid (M_18.out.on b19)
    have Y18_19 := hid (Y18.out.on b19)
    clear b19 X_disk_18 B_18 R_w_18 X_w_18 X_x_18 X_g_18 M_18 Y18 cX_disk0_18 cX_w0_18 cX_x0_18 cX_g0_18
    have cX_disk0_19 := X_disk_19.out.cell (j := 0) rfl
    have cX_w0_19 := X_w_19.out.cell (j := 0) rfl
    have cX_x0_19 := X_x_19.out.cell (j := 0) rfl
    have cX_g0_19 := X_g_19.out.cell (j := 0) rfl
    have CQ := hid (implLoseDisk_o _ l c18 _ zs zs.length hl2 hzl2 _ Y18_19.out.files (ints_of Y19.out))
    rw [hF] at CQ
    dsimp only at CQ
    go_wp2_with fail
    refine Calls.mono CQ.out ?_
    rintro e w20 ⟨v20, c20, rfl, h20, b20⟩
    have O20 := hid b20.size
    have R_h := hid h20
    clear h20 CQ
    have X_disk_20 := hid (X_disk_19.out.on b20 X_disk_19.out.lt)
    have B_20 := hid (below_via B_19.out b20)
    have R_w_20 := hid (R_w_19.out.on b20)
    have X_w_20 := hid (X_w_19.out.on b20 X_w_19.out.lt)
    have X_x_20 := hid (X_x_19.out.on b20 X_x_19.out.lt)
    have X_g_20 := hid (X_g_19.out.on b20 X_g_19.out.lt)
    have M_20 := hid (M_19.out.on b20)
    have Y18_20 := hid (Y18_19.out.on b20)
    have Y19_20 := hid (Y19.out.on b20 Y19.out.lt)
    clear b20 X_disk_19 B_19 R_w_19 X_w_19 X_x_19 X_g_19 M_19 Y18_19 Y19 cX_disk0_19 cX_w0_19 cX_x0_19 cX_g0_19
    have cX_disk0_20 := X_disk_20.out.cell (j := 0) rfl
    have cX_w0_20 := X_w_20.out.cell (j := 0) rfl
    have cX_x0_20 := X_x_20.out.cell (j := 0) rfl
    have cX_g0_20 := X_g_20.out.cell (j := 0) rfl
    clear Y18_20
    clear Y19_20
    have ba := below_more (Below.refl w20.heap.size w20) (.cells #[.slice v20 A.length c20] 26)
    have hx : BlockIs (w20.alloc (.cells #[.slice v20 A.length c20] 26)) w20.heap.size 26 [.slice v20 A.length c20] := heap_alloc_new w20 _
    have X_disk_20a := hid (X_disk_20.out.on ba X_disk_20.out.lt)
    have B_20a := hid (below_via B_20.out ba)
    have R_w_20a := hid (R_w_20.out.on ba)
    have X_w_20a := hid (X_w_20.out.on ba X_w_20.out.lt)
    have X_x_20a := hid (X_x_20.out.on ba X_x_20.out.lt)
    have X_g_20a := hid (X_g_20.out.on ba X_g_20.out.lt)
    have M_20a := hid (M_20.out.on ba)
    have R_h_20a := hid (R_h.out.on ba)
    have X_h_20a := hid hx
    have O20a := hid hx.lt
    clear ba hx X_disk_20 B_20 R_w_20 X_w_20 X_x_20 X_g_20 M_20 R_h
    have cX_disk0_20a := X_disk_20a.out.cell (j := 0) rfl
    have cX_w0_20a := X_w_20a.out.cell (j := 0) rfl
    have cX_x0_20a := X_x_20a.out.cell (j := 0) rfl
    have cX_g0_20a := X_g_20a.out.cell (j := 0) rfl
    have cX_h0_20a := X_h_20a.out.cell (j := 0) rfl
    go_wp2_with fail
    refine (eqDisk_o v20 v4 A c20 c4 hA2 _ (R_h_20a.out.files) (R_w_20a.out.files)).mono ?_
    rintro e w21 ⟨rfl, b21⟩
    have O21 := hid b21.size
    have X_disk_21 := hid (X_disk_20a.out.on b21 X_disk_20a.out.lt)
    have B_21 := hid (below_via B_20a.out b21)
    have R_w_21 := hid (R_w_20a.out.on b21)
    have X_w_21 := hid (X_w_20a.out.on b21 X_w_20a.out.lt)
    have X_x_21 := hid (X_x_20a.out.on b21 X_x_20a.out.lt)
    have X_g_21 := hid (X_g_20a.out.on b21 X_g_20a.out.lt)
    have M_21 := hid (M_20a.out.on b21)
    have R_h_21 := hid (R_h_20a.out.on b21)
    have X_h_21 := hid (X_h_20a.out.on b21 X_h_20a.out.lt)
    clear b21 X_disk_20a B_20a R_w_20a X_w_20a X_x_20a X_g_20a M_20a R_h_20a X_h_20a cX_disk0_20a cX_w0_20a cX_x0_20a cX_g0_20a cX_h0_20a cX_disk0_20 cX_w0_20 cX_x0_20 cX_g0_20
    have cX_disk0_21 := X_disk_21.out.cell (j := 0) rfl
    have cX_w0_21 := X_w_21.out.cell (j := 0) rfl
    have cX_x0_21 := X_x_21.out.cell (j := 0) rfl
    have cX_g0_21 := X_g_21.out.cell (j := 0) rfl
    have cX_h0_21 := X_h_21.out.cell (j := 0) rfl
    go_wp2_with fail
    refine (heldDisk_any v7 A.length c7 1 (by omega) hA2 _ M_21.out).mono ?_
    rintro e w22 ⟨rfl, b22⟩
    have O22 := hid b22.size
    have X_disk_22 := hid (X_disk_21.out.on b22 X_disk_21.out.lt)
    have B_22 := hid (below_via B_21.out b22)
    have R_w_22 := hid (R_w_21.out.on b22)
    have X_w_22 := hid (X_w_21.out.on b22 X_w_21.out.lt)
    have X_x_22 := hid (X_x_21.out.on b22 X_x_21.out.lt)
    have X_g_22 := hid (X_g_21.out.on b22 X_g_21.out.lt)
    have M_22 := hid (M_21.out.on b22)
    have R_h_22 := hid (R_h_21.out.on b22)
    have X_h_22 := hid (X_h_21.out.on b22 X_h_21.out.lt)
    clear b22 X_disk_21 B_21 R_w_21 X_w_21 X_x_21 X_g_21 M_21 R_h_21 X_h_21 cX_disk0_21 cX_w0_21 cX_x0_21 cX_g0_21 cX_h0_21
    have cX_disk0_22 := X_disk_22.out.cell (j := 0) rfl
    have cX_w0_22 := X_w_22.out.cell (j := 0) rfl
    have cX_x0_22 := X_x_22.out.cell (j := 0) rfl
    have cX_g0_22 := X_g_22.out.cell (j := 0) rfl
    have cX_h0_22 := X_h_22.out.cell (j := 0) rfl
    go_wp2
    go_ret
    exact ⟨rfl, B_22.out⟩

theorem own : ownKnob Try.prog.godebug = none := by kernel_rfl
theorem laidOut : laidOutB Try.prog = true := by kernel_rfl
theorem rowed : varsRowed Try.prog Rows.fnExactLoseDiskSpec.vars = true := by kernel_rfl
set_option maxRecDepth 1000000 in
theorem contract (H : Type) (enc : TypeId × Value → H) (W : World) (base : Nat) (args : Array Value) (ds gs : List (DataW H)) (before : List MemPlace)
    (hval : ∀ (j : Nat) t v, Try.f8.params[j]? = some t → args[j]? = some v → Value.okWide Try.prog W .any base t v)
    (hW : DataW.Whole enc Try.prog Try.f8.params.toList Rows.fnExactLoseDiskSpec.vars false W args.toList ds gs before) (_hL : laidMetH Try.prog Rows.fnExactLoseDiskRow.laid W) :
    Calls Try.prog 8 args W fun e W' => ∃ v, e = .returned v ∧ Rows.fnExactLoseDiskSpec.post enc Try.prog Try.f8 false true false false W args v W' := by
  have hW' := hW
  obtain ⟨p, q, hA0, hV0, rfl, hfz, hnd⟩ := hW
  have hV : DataW.TrodVars enc Try.prog W (fun _ => true) Rows.fnExactLoseDiskSpec.vars gs q := hV0
  have hA : DataW.TrodAll enc Try.prog W 0 (fun _ => true) true Try.f8.params.toList args.toList ds p := hA0
  rw [Try.params8] at hA hval
  obtain ⟨v0, vs0, d0, ds0, p0, q0, hargs0, rfl, rfl, h0, r0⟩ := trodAll_cons hA
  obtain ⟨v1, vs1, d1, ds1, p1, q1, hargs1, rfl, rfl, h1, r1⟩ := trodAll_cons r0
  subst hargs1
  obtain ⟨rfl, rfl, rfl⟩ := trodAll_nil r1
  obtain rfl : args = #[v0, v1] := by cases args; simp_all
  have k0 := h0
  have lt0 : ∀ x ∈ p0, x.block < W.heap.size := by obtain ⟨m, hm⟩ := k0; exact DataW.trod_lt m _ _ _ hm
  obtain ⟨a0, l0, cap0, rfl, hc0, hm0, hat0, hfit0, hkept0⟩ := open_disk (hval 0 51 v0 rfl rfl) h0
  have k1 := h1
  have lt1 : ∀ x ∈ p1, x.block < W.heap.size := by obtain ⟨m, hm⟩ := k1; exact DataW.trod_lt m _ _ _ hm
  obtain ⟨a1, z1, cap1, rfl, hc1, hm1, hat1, hf1⟩ := open_intS (hval 1 28 v1 rfl rfl) h1
  clear hA0 hV0
  obtain ⟨rfl, rfl⟩ := trodVars_none hV
  refine (walk a0 l0 cap0 (Nat.le_trans hc0 hm0) hfit0 hkept0 a1 z1 cap1 (Nat.le_trans hc1 hm1) hf1 W hat0 hat1).mono fun e W' ⟨he, bel⟩ => ?_
  subst he
  exact ⟨_, rfl, _, _, _, [], _, [], hW', trodAll_mk1 (shut_bool Try.underlying4 _), trodAll_cons_mk (Below.trod laidOut (by kernel_rfl) (of_decide_eq_true (by kernel_rfl)) k0 bel lt0) (trodAll_cons_mk (Below.trod laidOut (by kernel_rfl) (of_decide_eq_true (by kernel_rfl)) k1 bel lt1) (trodAll_mk0)), rfl, bel.frame _, fun h => by cases h⟩

def put (cs : Array Value) : Obj → Obj
  | .cells _ t frozen => .cells cs t frozen
  | o => o

/-- a world for the witness: the tables hold what their initialisers lay -/
def laidWorld (w : World) : World := { w with heap := w.heap }
theorem laid_met (os : Os) : laidMet Try.prog Rows.fnExactLoseDiskRow.laid ((laidWorld (World.holding Try.prog os ⟨#[], #[], []⟩)).forCall (fun _ _ => 0) ⟨#[], #[.agg #[.slice none 0 0], .slice none 0 0], []⟩).memory :=
  laidMet_of_run' 8 (by kernel_rfl) (by kernel_rfl)
theorem reads (os : Os) {H : Type} (enc : TypeId × Value → H) : ∃ places, DataW.whole enc Try.prog ((laidWorld (World.holding Try.prog os ⟨#[], #[], []⟩)).forCall (fun _ _ => 0) ⟨#[], #[.agg #[.slice none 0 0], .slice none 0 0], []⟩).memory Try.f8.params.toList Rows.fnExactLoseDiskSpec.vars false #[Value.agg #[.slice none 0 0], .slice none 0 0].toList 8 = some ([.agg [.nil], .nil], [], places) :=
  ⟨[], by kernel_rfl⟩

set_option maxRecDepth 1000000 in
theorem lifted (os : Os) (started : os.Started) (H : Type) (enc : TypeId × Value → H) (F : Stop.Interp) :
    ReturnsInHanded {} Try.checked os 8 .any ((OpenSpec.ofChange Rows.fnExactLoseDiskSpec).preRow enc Try.prog Try.f8 Rows.fnExactLoseDiskRow.domain false Rows.fnExactLoseDiskRow.laid) (((OpenSpec.ofChange Rows.fnExactLoseDiskSpec).at F).post enc Try.prog Try.f8 false true false false) := by
  obtain ⟨places, hx⟩ := reads os enc
  refine returnsInHanded_of_row (C := Try.checked) (s := OpenSpec.ofChange Rows.fnExactLoseDiskSpec) own started (by kernel_rfl) Try.func8
    (witness_row_at (enc := enc) (C := Try.checked) false (laidWorld (World.holding Try.prog os ⟨#[], #[], []⟩)) #[.agg #[.slice none 0 0], .slice none 0 0] rfl (by kernel_rfl) (by kernel_rfl) (by kernel_rfl)
      (OpenSpec.preRow_of_cond 8 hx (by kernel_rfl) (fun k hk => by cases hk) (by kernel_rfl) (laid_met os))) ?_
  intro W base args ds gs before hval hW _ _ _ hL _ _
  exact contract H enc W base args ds gs before hval hW hL

theorem said : Rows.FnExactLoseDiskSaid :=
  OpenClaim.holds_of_cond 8 Try.f8 rfl rfl rfl rfl rfl rfl rfl ⟨rfl, rfl, rfl, rfl, rfl⟩ rfl rfl rfl rfl rfl (by kernel_rfl) Try.func8 (by kernel_rfl)
    (of_decide_eq_true (by kernel_rfl)) (by unfold Func.isWrapper; first | (rw [if_pos (by decide +kernel)]; kernel_rfl) | (rw [if_neg (by decide +kernel)]; exact ⟨rfl, rfl⟩))
    (fun os started H enc _ F => by rw [OpenClaim.pre_eq_preRow]; exact lifted os started H enc F)

end Go.Proofs.Ythkfgiilbkjojaa.fnExactLoseDisk
