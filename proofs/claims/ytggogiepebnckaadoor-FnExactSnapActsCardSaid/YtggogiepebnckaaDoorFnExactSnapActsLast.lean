/-
  For every disk and every snapshot, laws.FnExactSnapActs returns true: impl.SnapActs and spec.SnapActs answer alike, and the answer owns its memory; nothing that was in memory is written. The tables that impl and the library read are tied to the program's text (the card).
-/
import Derived.Test.YtggogiepebnckaaDoorCards
import Derived.Test.YtggogiepebnckaaDoorTie
import Derived.Test.YtggogiepebnckaaDoorJoint3
import Derived.Test.YtggogiepebnckaaDoorJoint7
import Derived.Test.YtggogiepebnckaaDoorJoint6
import Derived.Test.YtggogiepebnckaaDoorJoint12
import Derived.Test.YtggogiepebnckaaDoorJoint48
import Derived.Deep.DeepCutAuto
import Derived.Deep.RegionWith
import Derived.WalkSmall
import Derived.WalkKit
import Derived.ProofKit
import Derived.OpenShut
import Derived.OpenVars
import Derived.Deep.DeepHandedRow
import Derived.Lib.LaidTab
import Derived.Stop.LaidErr
namespace Go.Proofs.YtggogiepebnckaaDoor.fnExactSnapActs
open Go.ChangeShapes Go.WideShapes Go.ChangeAt Go.ChangeMaps Go.RowKit

set_option maxRecDepth 1000000 in
set_option maxHeartbeats 16000000 in
theorem walk (ao : Option Addr) (l : List FileD) (cap : Nat) (hl : l.length ≤ maxLen) (hf : FilesFit l) (_hk : KeptFit l) (ix tm : Int) (_hi : -9223372036854775808 ≤ ix ∧ ix ≤ 9223372036854775807) (_htm : -9223372036854775808 ≤ tm ∧ tm ≤ 9223372036854775807) (so : Option Addr) (zs : List Int) (scap : Nat) (bd : ByteArray) (hbm : bd.size ≤ maxLen) (hzm : zs.length ≤ maxLen) (_hzf : IntsFit zs) (w : World) (ha : FilesAt w ao l) (hz : IntsAt w so zs) (ht : Steps w) (htab : Lib.TabIs Tryd.prog w "internal/strconv.uint64pow10" .u64 Lib.pow10Tab) :
    Calls Tryd.prog 6 #[.agg #[.slice ao l.length cap], .agg #[.int .i64 ix, .int .i64 tm, .slice so zs.length scap, .string bd]] w fun e w' => e = .returned (.bool true) ∧ Below w.heap.size w w' := by
  have HA := hid ha
  have HZ := hid hz
  have HT := hid ht
  have HTB := hid htab
  have h2 := two_blocks w (.cells #[.slice ao l.length cap] 32) (.cells #[.int .i64 ix, .int .i64 tm, .slice so zs.length scap, .string bd] 46)
  have XD0 : Hid (BlockIs _ w.heap.size 32 [.slice ao l.length cap]) := h2.2.2.1
  have XS0 : Hid (BlockIs _ (w.heap.size + 1) 46 [.int .i64 ix, .int .i64 tm, .slice so zs.length scap, .string bd]) := h2.2.2.2
  have B0 := hid h2.1
  have O0 := hid XD0.out.lt
  have O00 := hid XS0.out.lt
  clear ha hz ht htab h2
  obtain ⟨wa, hwa⟩ : ∃ W, (w.alloc (.cells #[.slice ao l.length cap] 32)).alloc (.cells #[.int .i64 ix, .int .i64 tm, .slice so zs.length scap, .string bd] 46) = W := ⟨_, rfl⟩
  rw [hwa] at XD0 XS0 B0 O0 O00
  go_enter Tryd.func6, Tryd.ntmps6
  have cXD0_0 := XD0.out.cell (j := 0) rfl
  have cXS0_0 := XS0.out.cell (j := 0) rfl
  have cXS1_0 := XS0.out.cell (j := 1) rfl
  have cXS2_0 := XS0.out.cell (j := 2) rfl
  have cXS3_0 := XS0.out.cell (j := 3) rfl
  go_wp2_with fail
  refine (szDisk_any ao l cap 1048576 (by omega) (by omega) hl hf _ (HA.out.on B0.out)).mono ?_
  rintro e w1 ⟨hor, b1⟩
  have O1 := hid b1.size
  have B_1 := hid (below_via B0.out b1)
  have XD_1 := hid (XD0.out.on b1 XD0.out.lt)
  have XS_1 := hid (XS0.out.on b1 XS0.out.lt)
  clear b1 B0 XD0 XS0 cXD0_0 cXS0_0 cXS1_0 cXS2_0 cXS3_0
  have cXD0_1 := XD_1.out.cell (j := 0) rfl
  have cXS0_1 := XS_1.out.cell (j := 0) rfl
  have cXS1_1 := XS_1.out.cell (j := 1) rfl
  have cXS2_1 := XS_1.out.cell (j := 2) rfl
  have cXS3_1 := XS_1.out.cell (j := 3) rfl
  clear hwa
  rcases hor with ⟨hneg, rfl⟩ | ⟨hnn, rfl⟩
  · go_wp2
    go_ret
    exact ⟨rfl, B_1.out⟩
  have hl2 := (filesSmall hnn).1
  have HSN := hid (fun f (h : f ∈ l) => ((filesSmall hnn).2 f h).1)
  have hbn := fileBulk_nonneg l
  clear hf hl
  obtain ⟨lf, hlf⟩ : ∃ q, (1048576 : Int) - l.length - fileBulk l = q := ⟨_, rfl⟩
  rw [hlf] at hnn ⊢
  have hlf2 : lf ≤ 1048576 := by omega
  clear hlf hbn
  go_wp2_with fail
  refine (szSnap_any ix tm so zs.length scap bd lf hnn hlf2 (by unfold maxLen at hzm; omega) hbm _).mono ?_
  rintro e w2 ⟨hor, b2⟩
  have O2 := hid b2.size
  have B_2 := hid (below_via B_1.out b2)
  have XD_2 := hid (XD_1.out.on b2 XD_1.out.lt)
  have XS_2 := hid (XS_1.out.on b2 XS_1.out.lt)
  clear b2 B_1 XD_1 XS_1 cXD0_1 cXS0_1 cXS1_1 cXS2_1 cXS3_1
  have cXD0_2 := XD_2.out.cell (j := 0) rfl
  have cXS0_2 := XS_2.out.cell (j := 0) rfl
  have cXS1_2 := XS_2.out.cell (j := 1) rfl
  have cXS2_2 := XS_2.out.cell (j := 2) rfl
  have cXS3_2 := XS_2.out.cell (j := 3) rfl
  rcases hor with ⟨hneg, rfl⟩ | ⟨hnn2, rfl⟩
  · go_wp2
    go_ret
    exact ⟨rfl, B_2.out⟩
  have hzl : zs.length ≤ 1048576 := by omega
  have hbl : bd.size ≤ 1048576 := by omega
  obtain ⟨lg, hlg⟩ : ∃ q, lf - zs.length - bd.size = q := ⟨_, rfl⟩
  rw [hlg] at hnn2 ⊢
  clear hlg hzm hbm
  have hz4 := snapActs_few (l := l) (ix := ix) (tm := tm) (zs := zs) (bd := bd)
  have CS' := fun va vc sa sc w ha hz => specSActs_o va l vc ix tm sa zs sc bd hl2 HSN.out hzl hbl w ha hz
  have CI' := fun va vc sa sc w ha hz ht htab => implSActs_o va l vc ix tm sa zs sc bd hl2 HSN.out hzl hbl w ha hz ht htab
  obtain ⟨A, hA⟩ : ∃ x, (snapActs l ix tm zs bd).1 = x := ⟨_, rfl⟩
  obtain ⟨ok, hok⟩ : ∃ x, (snapActs l ix tm zs bd).2 = x := ⟨_, rfl⟩
  simp only [hA, hok] at CS' CI' hz4
  have CS := hid CS'
  have CI := hid CI'
  clear CS' CI' hA hok
  have HG0 := hid (show Below w2.heap.size w2 w2.drew from below_drewN (Below.refl _ _) 1)
  have CD : Hid (∀ W, Hid (Below w2.heap.size w2 W) → Calls Tryd.prog 14 #[.agg #[.slice ao l.length cap]] W fun e W' => ∃ va vc, e = .returned (.agg #[.slice va l.length vc]) ∧ (W'.cell? ⟨w.heap.size, 0, none⟩ = some (.slice ao l.length cap) ∧ W'.cell? ⟨w.heap.size + 1, 0, none⟩ = some (.int .i64 ix) ∧ W'.cell? ⟨w.heap.size + 1, 1, none⟩ = some (.int .i64 tm) ∧ W'.cell? ⟨w.heap.size + 1, 2, none⟩ = some (.slice so zs.length scap) ∧ W'.cell? ⟨w.heap.size + 1, 3, none⟩ = some (.string bd)) ∧ Hid (FilesAt W' va l) ∧ Hid (Below W.heap.size W W') ∧ Hid (Below w2.heap.size w2 W')) := by
    intro W hW
    refine Calls.mono (toDisk_o ao l cap hl2 W (HA.out.on (below_via B_2.out hW.out))) ?_
    rintro e W' ⟨va, vc, rfl, ho, hb⟩
    have hb2 := below_via hW.out hb
    exact ⟨va, vc, rfl, ⟨(XD_2.out.on hb2 XD_2.out.lt).cell (j := 0) rfl, (XS_2.out.on hb2 XS_2.out.lt).cell (j := 0) rfl, (XS_2.out.on hb2 XS_2.out.lt).cell (j := 1) rfl, (XS_2.out.on hb2 XS_2.out.lt).cell (j := 2) rfl, (XS_2.out.on hb2 XS_2.out.lt).cell (j := 3) rfl⟩, ho.files, hb, hb2⟩
  have CZ : Hid (∀ W, Hid (Below w2.heap.size w2 W) → Calls Tryd.prog 25 #[.agg #[.int .i64 ix, .int .i64 tm, .slice so zs.length scap, .string bd]] W fun e W' => ∃ va vc, e = .returned (.agg #[.int .i64 ix, .int .i64 tm, .slice va zs.length vc, .string bd]) ∧ (W'.cell? ⟨w.heap.size, 0, none⟩ = some (.slice ao l.length cap) ∧ W'.cell? ⟨w.heap.size + 1, 0, none⟩ = some (.int .i64 ix) ∧ W'.cell? ⟨w.heap.size + 1, 1, none⟩ = some (.int .i64 tm) ∧ W'.cell? ⟨w.heap.size + 1, 2, none⟩ = some (.slice so zs.length scap) ∧ W'.cell? ⟨w.heap.size + 1, 3, none⟩ = some (.string bd)) ∧ Hid (IntsAt W' va zs) ∧ Hid (Below W.heap.size W W') ∧ Hid (Below w2.heap.size w2 W')) := by
    intro W hW
    refine Calls.mono (toSnap_o ix tm so zs scap bd hzl W (HZ.out.on (below_via B_2.out hW.out))) ?_
    rintro e W' ⟨va, vc, rfl, ho, hb⟩
    have hb2 := below_via hW.out hb
    exact ⟨va, vc, rfl, ⟨(XD_2.out.on hb2 XD_2.out.lt).cell (j := 0) rfl, (XS_2.out.on hb2 XS_2.out.lt).cell (j := 0) rfl, (XS_2.out.on hb2 XS_2.out.lt).cell (j := 1) rfl, (XS_2.out.on hb2 XS_2.out.lt).cell (j := 2) rfl, (XS_2.out.on hb2 XS_2.out.lt).cell (j := 3) rfl⟩, ho.ints, hb, hb2⟩
  have CF : Hid (∀ W va vc sa sc, Hid (Below w2.heap.size w2 W) → Hid (FilesAt W va l) → Hid (IntsAt W sa zs) → Calls Tryd.prog 24 #[.agg #[.slice va l.length vc], .agg #[.int .i64 ix, .int .i64 tm, .slice sa zs.length sc, .string bd]] W fun e W' => ∃ vb vd, e = .returned (.tuple #[.slice vb A.length vd, .bool ok]) ∧ Hid (OwnAt W' 82 (actCells A) A.length vb w2.heap.size W'.heap.size) ∧ Hid (Below w2.heap.size w2 W')) := by
    intro W va vc sa sc hW hY hS
    refine Calls.mono (CS.out va vc sa sc W hY.out hS.out) ?_
    rintro e W' ⟨vb, vd, rfl, ho, hb⟩
    exact ⟨vb, vd, rfl, ho.down hW.out.size (Nat.le_refl _), below_via hW.out hb⟩
  go_upto_region 8 with fail
  go_cut [6, 7] (fun sa sb wx => ∃ vb vd, sa = .slice vb A.length vd ∧ sb = .bool ok ∧ Hid (OwnAt wx 82 (actCells A) A.length vb w2.heap.size wx.heap.size) ∧ Hid (Below w2.heap.size w2 wx))
  case first =>
    go_region_with (first | (go_at_call 14; refine Calls.mono (CD.out _ HG0) ?_; rintro e wd ⟨vq, cq, rfl, ⟨m0, m1, m2, m3, m4⟩, HY, HBD, HGd⟩) | (go_at_call 25; refine Calls.mono (CZ.out _ HGd) ?_; rintro e wz ⟨vz, cz, rfl, ⟨m0, m1, m2, m3, m4⟩, HS, HBZ, HGz⟩; have HFl := hid (HY.out.on HBZ.out)) | (go_at_call 24; refine Calls.mono (CF.out _ _ _ _ _ HGz HFl HS) ?_; rintro e wf ⟨vb, vd, rfl, HO5, HGf⟩))
    all_goals
      go_wp2_with fail
      go_meet
      exact ⟨vb, vd, rfl, rfl, HO5, HGf⟩
  case rest =>
  obtain ⟨w3, hwc⟩ : ∃ W, W = wc := ⟨_, rfl⟩
  subst hwc
  obtain ⟨v3, c3, rfl, rfl, HO, HCX⟩ := hcut
  have bb := HCX.out
  have O3 := hid bb.size
  have B_3 := hid (below_via B_2.out bb)
  have XD_3 := hid (XD_2.out.on bb XD_2.out.lt)
  have XS_3 := hid (XS_2.out.on bb XS_2.out.lt)
  have Rw := hid HO.out
  clear bb HCX HO HG0 CD CZ CF B_2 XD_2 XS_2 cXD0_2 cXS0_2 cXS1_2 cXS2_2 cXS3_2
  have cXD0_3 := XD_3.out.cell (j := 0) rfl
  have cXS0_3 := XS_3.out.cell (j := 0) rfl
  have cXS1_3 := XS_3.out.cell (j := 1) rfl
  have cXS2_3 := XS_3.out.cell (j := 2) rfl
  have cXS3_3 := XS_3.out.cell (j := 3) rfl
  go_wp2_with fail
  refine (toDisk_o ao l cap hl2 _ (HA.out.on B_3.out)).mono ?_
  rintro e w4 ⟨v4, c4, rfl, h4, b4⟩
  have O4 := hid b4.size
  have Yx := hid h4
  clear h4
  have B_4 := hid (below_via B_3.out b4)
  have XD_4 := hid (XD_3.out.on b4 XD_3.out.lt)
  have XS_4 := hid (XS_3.out.on b4 XS_3.out.lt)
  have Rw_4 := hid (Rw.out.on b4)
  clear b4 B_3 XD_3 XS_3 Rw cXD0_3 cXS0_3 cXS1_3 cXS2_3 cXS3_3
  have cXD0_4 := XD_4.out.cell (j := 0) rfl
  have cXS0_4 := XS_4.out.cell (j := 0) rfl
  have cXS1_4 := XS_4.out.cell (j := 1) rfl
  have cXS2_4 := XS_4.out.cell (j := 2) rfl
  have cXS3_4 := XS_4.out.cell (j := 3) rfl
  have ba := below_more (Below.refl w4.heap.size w4) (.cells #[.slice v4 l.length c4] 37)
  have hx : BlockIs (w4.alloc (.cells #[.slice v4 l.length c4] 37)) w4.heap.size 37 [.slice v4 l.length c4] := heap_alloc_new w4 _
  have B_4a := hid (below_via B_4.out ba)
  have XD_4a := hid (XD_4.out.on ba XD_4.out.lt)
  have XS_4a := hid (XS_4.out.on ba XS_4.out.lt)
  have Rw_4a := hid (Rw_4.out.on ba)
  have Yx_4a := hid (Yx.out.on ba)
  have Xx_4a := hid hx
  have O4a := hid hx.lt
  clear ba hx B_4 XD_4 XS_4 Rw_4 Yx cXD0_4 cXS0_4 cXS1_4 cXS2_4 cXS3_4
  have cXD0_4a := XD_4a.out.cell (j := 0) rfl
  have cXS0_4a := XS_4a.out.cell (j := 0) rfl
  have cXS1_4a := XS_4a.out.cell (j := 1) rfl
  have cXS2_4a := XS_4a.out.cell (j := 2) rfl
  have cXS3_4a := XS_4a.out.cell (j := 3) rfl
  have cXx0_4a := Xx_4a.out.cell (j := 0) rfl
  go_wp2_with fail
  refine (toSnap_o ix tm so zs scap bd hzl _ (HZ.out.on B_4a.out)).mono ?_
  rintro e w5 ⟨v5, c5, rfl, h5, b5⟩
  have O5 := hid b5.size
  have Yy := hid h5
  clear h5
  have B_5 := hid (below_via B_4a.out b5)
  have XD_5 := hid (XD_4a.out.on b5 XD_4a.out.lt)
  have XS_5 := hid (XS_4a.out.on b5 XS_4a.out.lt)
  have Rw_5 := hid (Rw_4a.out.on b5)
  have Yx_5 := hid (Yx_4a.out.on b5)
  have Xx_5 := hid (Xx_4a.out.on b5 Xx_4a.out.lt)
  clear b5 B_4a XD_4a XS_4a Rw_4a Yx_4a Xx_4a cXD0_4a cXS0_4a cXS1_4a cXS2_4a cXS3_4a cXx0_4a
  have cXD0_5 := XD_5.out.cell (j := 0) rfl
  have cXS0_5 := XS_5.out.cell (j := 0) rfl
  have cXS1_5 := XS_5.out.cell (j := 1) rfl
  have cXS2_5 := XS_5.out.cell (j := 2) rfl
  have cXS3_5 := XS_5.out.cell (j := 3) rfl
  have cXx0_5 := Xx_5.out.cell (j := 0) rfl
  have ba := below_more (Below.refl w5.heap.size w5) (.cells #[.int .i64 ix, .int .i64 tm, .slice v5 zs.length c5, .string bd] 24)
  have hx : BlockIs (w5.alloc (.cells #[.int .i64 ix, .int .i64 tm, .slice v5 zs.length c5, .string bd] 24)) w5.heap.size 24 [.int .i64 ix, .int .i64 tm, .slice v5 zs.length c5, .string bd] := heap_alloc_new w5 _
  have B_5a := hid (below_via B_5.out ba)
  have XD_5a := hid (XD_5.out.on ba XD_5.out.lt)
  have XS_5a := hid (XS_5.out.on ba XS_5.out.lt)
  have Rw_5a := hid (Rw_5.out.on ba)
  have Yx_5a := hid (Yx_5.out.on ba)
  have Xx_5a := hid (Xx_5.out.on ba Xx_5.out.lt)
  have Yy_5a := hid (Yy.out.on ba)
  have Xy_5a := hid hx
  have O5a := hid hx.lt
  clear ba hx B_5 XD_5 XS_5 Rw_5 Yx_5 Xx_5 Yy cXD0_5 cXS0_5 cXS1_5 cXS2_5 cXS3_5 cXx0_5
  have cXD0_5a := XD_5a.out.cell (j := 0) rfl
  have cXS0_5a := XS_5a.out.cell (j := 0) rfl
  have cXS1_5a := XS_5a.out.cell (j := 1) rfl
  have cXS2_5a := XS_5a.out.cell (j := 2) rfl
  have cXS3_5a := XS_5a.out.cell (j := 3) rfl
  have cXx0_5a := Xx_5a.out.cell (j := 0) rfl
  have cXy0_5a := Xy_5a.out.cell (j := 0) rfl
  have cXy1_5a := Xy_5a.out.cell (j := 1) rfl
  have cXy2_5a := Xy_5a.out.cell (j := 2) rfl
  have cXy3_5a := Xy_5a.out.cell (j := 3) rfl
  go_wp2_with fail
  refine (CI.out v4 c4 v5 c5 _ Yx_5a.out.files Yy_5a.out.ints (steps_on HT.out B_5a.out) (table_on HTB.out B_5a.out)).mono ?_
  rintro e w6 ⟨v6, c6, rfl, h6, b6⟩
  have O6 := hid b6.size
  have Rg := hid h6
  clear h6
  have B_6 := hid (below_via B_5a.out b6)
  have XD_6 := hid (XD_5a.out.on b6 XD_5a.out.lt)
  have XS_6 := hid (XS_5a.out.on b6 XS_5a.out.lt)
  have Rw_6 := hid (Rw_5a.out.on b6)
  have Yx_6 := hid (Yx_5a.out.on b6)
  have Xx_6 := hid (Xx_5a.out.on b6 Xx_5a.out.lt)
  have Yy_6 := hid (Yy_5a.out.on b6)
  have Xy_6 := hid (Xy_5a.out.on b6 Xy_5a.out.lt)
  clear b6 B_5a XD_5a XS_5a Rw_5a Yx_5a Xx_5a Yy_5a Xy_5a cXD0_5a cXS0_5a cXS1_5a cXS2_5a cXS3_5a cXx0_5a cXy0_5a cXy1_5a cXy2_5a cXy3_5a
  have cXD0_6 := XD_6.out.cell (j := 0) rfl
  have cXS0_6 := XS_6.out.cell (j := 0) rfl
  have cXS1_6 := XS_6.out.cell (j := 1) rfl
  have cXS2_6 := XS_6.out.cell (j := 2) rfl
  have cXS3_6 := XS_6.out.cell (j := 3) rfl
  have cXx0_6 := Xx_6.out.cell (j := 0) rfl
  have cXy0_6 := Xy_6.out.cell (j := 0) rfl
  have cXy1_6 := Xy_6.out.cell (j := 1) rfl
  have cXy2_6 := Xy_6.out.cell (j := 2) rfl
  have cXy3_6 := Xy_6.out.cell (j := 3) rfl
  go_wp2_with fail
  refine (eqActS_same v6 v3 A c6 c3 (by omega) _ Rg.out.acts Rw_6.out.acts).mono ?_
  rintro e w7 ⟨rfl, b7⟩
  have O7 := hid b7.size
  have B_7 := hid (below_via B_6.out b7)
  have XD_7 := hid (XD_6.out.on b7 XD_6.out.lt)
  have XS_7 := hid (XS_6.out.on b7 XS_6.out.lt)
  have Rw_7 := hid (Rw_6.out.on b7)
  have Yx_7 := hid (Yx_6.out.on b7)
  have Xx_7 := hid (Xx_6.out.on b7 Xx_6.out.lt)
  have Yy_7 := hid (Yy_6.out.on b7)
  have Xy_7 := hid (Xy_6.out.on b7 Xy_6.out.lt)
  have Rg_7 := hid (Rg.out.on b7)
  clear b7 B_6 XD_6 XS_6 Rw_6 Yx_6 Xx_6 Yy_6 Xy_6 Rg cXD0_6 cXS0_6 cXS1_6 cXS2_6 cXS3_6 cXx0_6 cXy0_6 cXy1_6 cXy2_6 cXy3_6
  have cXD0_7 := XD_7.out.cell (j := 0) rfl
  have cXS0_7 := XS_7.out.cell (j := 0) rfl
  have cXS1_7 := XS_7.out.cell (j := 1) rfl
  have cXS2_7 := XS_7.out.cell (j := 2) rfl
  have cXS3_7 := XS_7.out.cell (j := 3) rfl
  have cXx0_7 := Xx_7.out.cell (j := 0) rfl
  have cXy0_7 := Xy_7.out.cell (j := 0) rfl
  have cXy1_7 := Xy_7.out.cell (j := 1) rfl
  have cXy2_7 := Xy_7.out.cell (j := 2) rfl
  have cXy3_7 := Xy_7.out.cell (j := 3) rfl
  have CT : Hid (Calls Tryd.prog 14 #[.agg #[.slice ao l.length cap]] w7.drew fun e w8 => ∃ v8 c8, e = .returned (.agg #[.slice v8 l.length c8]) ∧ (w8.cell? ⟨w4.heap.size, 0, none⟩ = some (.slice v4 l.length c4)) ∧ Hid (Below w7.heap.size w7 w8 ∧ FilesAt w8 v8 l)) := by
    have hd : Below w7.heap.size w7 w7.drew := below_drewN (Below.refl _ _) 1
    refine Calls.mono (toDisk_o ao l cap hl2 w7.drew (HA.out.on (below_via B_7.out hd))) ?_
    rintro e w8 ⟨v8, c8, rfl, h8, b8⟩
    have h67 := below_via hd b8
    exact ⟨v8, c8, rfl, (Xx_7.out.on h67 Xx_7.out.lt).cell (j := 0) rfl, h67, h8.files⟩
  go_upto_region 14 with fail
  go_cut [58] (fun sa wx => sa = .bool false ∧ Hid (Below w7.heap.size w7 wx))
  case first =>
    go_region_with (first | (go_at_call 14; refine Calls.mono CT.out ?_; rintro e w8 ⟨v8, c8, rfl, y0, H8⟩) | (go_at_call 16; refine (eqDisk_o _ _ l _ _ hl2 _ ((Yx_7.out.on H8.out.1).files) H8.out.2).mono ?_; rintro e w9 ⟨rfl, b9⟩))
    all_goals
      go_wp2_with fail
      go_meet
      exact ⟨rfl, below_via H8.out.1 b9⟩
  case rest =>
  obtain ⟨w9, hwc⟩ : ∃ W, W = wc := ⟨_, rfl⟩
  subst hwc
  obtain ⟨rfl, HCX⟩ := hcut
  have bb := HCX.out
  have O9 := hid bb.size
  have B_9 := hid (below_via B_7.out bb)
  have XD_9 := hid (XD_7.out.on bb XD_7.out.lt)
  have XS_9 := hid (XS_7.out.on bb XS_7.out.lt)
  have Rw_9 := hid (Rw_7.out.on bb)
  have Yx_9 := hid (Yx_7.out.on bb)
  have Xx_9 := hid (Xx_7.out.on bb Xx_7.out.lt)
  have Yy_9 := hid (Yy_7.out.on bb)
  have Xy_9 := hid (Xy_7.out.on bb Xy_7.out.lt)
  have Rg_9 := hid (Rg_7.out.on bb)
  clear bb HCX CT B_7 XD_7 XS_7 Rw_7 Yx_7 Xx_7 Yy_7 Xy_7 Rg_7 cXD0_7 cXS0_7 cXS1_7 cXS2_7 cXS3_7 cXx0_7 cXy0_7 cXy1_7 cXy2_7 cXy3_7
  have cXD0_9 := XD_9.out.cell (j := 0) rfl
  have cXS0_9 := XS_9.out.cell (j := 0) rfl
  have cXS1_9 := XS_9.out.cell (j := 1) rfl
  have cXS2_9 := XS_9.out.cell (j := 2) rfl
  have cXS3_9 := XS_9.out.cell (j := 3) rfl
  have cXx0_9 := Xx_9.out.cell (j := 0) rfl
  have cXy0_9 := Xy_9.out.cell (j := 0) rfl
  have cXy1_9 := Xy_9.out.cell (j := 1) rfl
  have cXy2_9 := Xy_9.out.cell (j := 2) rfl
  have cXy3_9 := Xy_9.out.cell (j := 3) rfl
  have CT : Hid (Calls Tryd.prog 25 #[.agg #[.int .i64 ix, .int .i64 tm, .slice so zs.length scap, .string bd]] w9.drew fun e w10 => ∃ v10 c10, e = .returned (.agg #[.int .i64 ix, .int .i64 tm, .slice v10 zs.length c10, .string bd]) ∧ (w10.cell? ⟨w5.heap.size, 0, none⟩ = some (.int .i64 ix) ∧ w10.cell? ⟨w5.heap.size, 1, none⟩ = some (.int .i64 tm) ∧ w10.cell? ⟨w5.heap.size, 2, none⟩ = some (.slice v5 zs.length c5) ∧ w10.cell? ⟨w5.heap.size, 3, none⟩ = some (.string bd)) ∧ Hid (Below w9.heap.size w9 w10 ∧ IntsAt w10 v10 zs)) := by
    have hd : Below w9.heap.size w9 w9.drew := below_drewN (Below.refl _ _) 1
    refine Calls.mono (toSnap_o ix tm so zs scap bd hzl w9.drew (HZ.out.on (below_via B_9.out hd))) ?_
    rintro e w10 ⟨v10, c10, rfl, h10, b10⟩
    have h67 := below_via hd b10
    exact ⟨v10, c10, rfl, ⟨(Xy_9.out.on h67 Xy_9.out.lt).cell (j := 0) rfl, (Xy_9.out.on h67 Xy_9.out.lt).cell (j := 1) rfl, (Xy_9.out.on h67 Xy_9.out.lt).cell (j := 2) rfl, (Xy_9.out.on h67 Xy_9.out.lt).cell (j := 3) rfl⟩, h67, h10.ints⟩
  go_upto_region 16 with fail
  go_cut [63] (fun sa wx => sa = .bool false ∧ Hid (Below w9.heap.size w9 wx))
  case first =>
    go_region_with (first | (go_at_call 25; refine Calls.mono CT.out ?_; rintro e w10 ⟨v10, c10, rfl, ⟨y0, y1, y2, y3⟩, H10⟩) | (go_at_call 9; refine (eqSnap_same ix tm _ _ zs _ _ bd (by omega) _ ((Yy_9.out.on H10.out.1).ints) H10.out.2).mono ?_; rintro e w11 ⟨rfl, b11⟩))
    all_goals
      go_wp2_with fail
      go_meet
      exact ⟨rfl, below_via H10.out.1 b11⟩
  case rest =>
  obtain ⟨w11, hwc⟩ : ∃ W, W = wc := ⟨_, rfl⟩
  subst hwc
  obtain ⟨rfl, HCX⟩ := hcut
  have bb := HCX.out
  have O11 := hid bb.size
  have B_11 := hid (below_via B_9.out bb)
  have XD_11 := hid (XD_9.out.on bb XD_9.out.lt)
  have XS_11 := hid (XS_9.out.on bb XS_9.out.lt)
  have Rw_11 := hid (Rw_9.out.on bb)
  have Yx_11 := hid (Yx_9.out.on bb)
  have Xx_11 := hid (Xx_9.out.on bb Xx_9.out.lt)
  have Yy_11 := hid (Yy_9.out.on bb)
  have Xy_11 := hid (Xy_9.out.on bb Xy_9.out.lt)
  have Rg_11 := hid (Rg_9.out.on bb)
  clear bb HCX CT B_9 XD_9 XS_9 Rw_9 Yx_9 Xx_9 Yy_9 Xy_9 Rg_9 cXD0_9 cXS0_9 cXS1_9 cXS2_9 cXS3_9 cXx0_9 cXy0_9 cXy1_9 cXy2_9 cXy3_9
  have cXD0_11 := XD_11.out.cell (j := 0) rfl
  have cXS0_11 := XS_11.out.cell (j := 0) rfl
  have cXS1_11 := XS_11.out.cell (j := 1) rfl
  have cXS2_11 := XS_11.out.cell (j := 2) rfl
  have cXS3_11 := XS_11.out.cell (j := 3) rfl
  have cXx0_11 := Xx_11.out.cell (j := 0) rfl
  have cXy0_11 := Xy_11.out.cell (j := 0) rfl
  have cXy1_11 := Xy_11.out.cell (j := 1) rfl
  have cXy2_11 := Xy_11.out.cell (j := 2) rfl
  have cXy3_11 := Xy_11.out.cell (j := 3) rfl
  go_wp2_with fail
  refine (markDisk_o 1 v4 c4 l (w3.heap.size) (w4.heap.size) (by omega) (by omega) _ (by have := O0.out; have := O00.out; have := O1.out; have := O2.out; have := O3.out; have := O4.out; have := O4a.out; have := O5.out; have := O5a.out; have := O6.out; have := O7.out; have := O9.out; have := O11.out; omega) Yx_11.out).mono ?_
  rintro e w12 ⟨rfl, hm12, kp, b12⟩
  have O12 := hid b12.size
  have B_12 := hid (B_11.out.trans (b12.mono (by have := O0.out; have := O00.out; have := O1.out; have := O2.out; have := O3.out; have := O4.out; have := O4a.out; have := O5.out; have := O5a.out; have := O6.out; have := O7.out; have := O9.out; have := O11.out; have := O12.out; omega)))
  have XD_12 := hid (XD_11.out.kept kp (by have := O0.out; have := O00.out; have := O1.out; have := O2.out; have := O3.out; have := O4.out; have := O4a.out; have := O5.out; have := O5a.out; have := O6.out; have := O7.out; have := O9.out; have := O11.out; have := O12.out; omega))
  have XS_12 := hid (XS_11.out.kept kp (by have := O0.out; have := O00.out; have := O1.out; have := O2.out; have := O3.out; have := O4.out; have := O4a.out; have := O5.out; have := O5a.out; have := O6.out; have := O7.out; have := O9.out; have := O11.out; have := O12.out; omega))
  have Rw_12 := hid (Rw_11.out.kept kp (by have := O0.out; have := O00.out; have := O1.out; have := O2.out; have := O3.out; have := O4.out; have := O4a.out; have := O5.out; have := O5a.out; have := O6.out; have := O7.out; have := O9.out; have := O11.out; have := O12.out; omega))
  have Xx_12 := hid (Xx_11.out.kept kp (by have := O0.out; have := O00.out; have := O1.out; have := O2.out; have := O3.out; have := O4.out; have := O4a.out; have := O5.out; have := O5a.out; have := O6.out; have := O7.out; have := O9.out; have := O11.out; have := O12.out; omega))
  have Yy_12 := hid (Yy_11.out.kept kp (by have := O0.out; have := O00.out; have := O1.out; have := O2.out; have := O3.out; have := O4.out; have := O4a.out; have := O5.out; have := O5a.out; have := O6.out; have := O7.out; have := O9.out; have := O11.out; have := O12.out; omega))
  have Xy_12 := hid (Xy_11.out.kept kp (by have := O0.out; have := O00.out; have := O1.out; have := O2.out; have := O3.out; have := O4.out; have := O4a.out; have := O5.out; have := O5a.out; have := O6.out; have := O7.out; have := O9.out; have := O11.out; have := O12.out; omega))
  have Rg_12 := hid (Rg_11.out.kept kp (by have := O0.out; have := O00.out; have := O1.out; have := O2.out; have := O3.out; have := O4.out; have := O4a.out; have := O5.out; have := O5a.out; have := O6.out; have := O7.out; have := O9.out; have := O11.out; have := O12.out; omega))
  have M12 := hid hm12
  clear kp b12 hm12 Yx_11 B_11 XD_11 XS_11 Rw_11 Xx_11 Yy_11 Xy_11 Rg_11 cXD0_11 cXS0_11 cXS1_11 cXS2_11 cXS3_11 cXx0_11 cXy0_11 cXy1_11 cXy2_11 cXy3_11
  obtain ⟨N12, hN12⟩ : ∃ N, 1 + 3 * l.length = N := ⟨_, rfl⟩
  have hNb12 : N12 ≤ 10000000 := by omega
  rw [hN12]
  have cXD0_12 := XD_12.out.cell (j := 0) rfl
  have cXS0_12 := XS_12.out.cell (j := 0) rfl
  have cXS1_12 := XS_12.out.cell (j := 1) rfl
  have cXS2_12 := XS_12.out.cell (j := 2) rfl
  have cXS3_12 := XS_12.out.cell (j := 3) rfl
  have cXx0_12 := Xx_12.out.cell (j := 0) rfl
  have cXy0_12 := Xy_12.out.cell (j := 0) rfl
  have cXy1_12 := Xy_12.out.cell (j := 1) rfl
  have cXy2_12 := Xy_12.out.cell (j := 2) rfl
  have cXy3_12 := Xy_12.out.cell (j := 3) rfl
  have hNc12 : N12 ≤ 3145729 := by omega
  clear M12 hN12
  go_wp2_with fail
  refine (markSnap_o ix tm v5 c5 bd zs ((w4.alloc (.cells #[.slice v4 l.length c4] 37)).heap.size) (w5.heap.size) N12 (by omega) (by omega) _ (by have := O0.out; have := O00.out; have := O1.out; have := O2.out; have := O3.out; have := O4.out; have := O4a.out; have := O5.out; have := O5a.out; have := O6.out; have := O7.out; have := O9.out; have := O11.out; have := O12.out; constructor <;> omega) Yy_12.out).mono ?_
  rintro e w13 ⟨rfl, hm13, kp, b13⟩
  have O13 := hid b13.size
  have B_13 := hid (B_12.out.trans (b13.mono (by have := O0.out; have := O00.out; have := O1.out; have := O2.out; have := O3.out; have := O4.out; have := O4a.out; have := O5.out; have := O5a.out; have := O6.out; have := O7.out; have := O9.out; have := O11.out; have := O12.out; have := O13.out; omega)))
  have XD_13 := hid (XD_12.out.kept kp (by have := O0.out; have := O00.out; have := O1.out; have := O2.out; have := O3.out; have := O4.out; have := O4a.out; have := O5.out; have := O5a.out; have := O6.out; have := O7.out; have := O9.out; have := O11.out; have := O12.out; have := O13.out; omega))
  have XS_13 := hid (XS_12.out.kept kp (by have := O0.out; have := O00.out; have := O1.out; have := O2.out; have := O3.out; have := O4.out; have := O4a.out; have := O5.out; have := O5a.out; have := O6.out; have := O7.out; have := O9.out; have := O11.out; have := O12.out; have := O13.out; omega))
  have Rw_13 := hid (Rw_12.out.kept kp (by have := O0.out; have := O00.out; have := O1.out; have := O2.out; have := O3.out; have := O4.out; have := O4a.out; have := O5.out; have := O5a.out; have := O6.out; have := O7.out; have := O9.out; have := O11.out; have := O12.out; have := O13.out; omega))
  have Xx_13 := hid (Xx_12.out.kept kp (by have := O0.out; have := O00.out; have := O1.out; have := O2.out; have := O3.out; have := O4.out; have := O4a.out; have := O5.out; have := O5a.out; have := O6.out; have := O7.out; have := O9.out; have := O11.out; have := O12.out; have := O13.out; omega))
  have Xy_13 := hid (Xy_12.out.kept kp (by have := O0.out; have := O00.out; have := O1.out; have := O2.out; have := O3.out; have := O4.out; have := O4a.out; have := O5.out; have := O5a.out; have := O6.out; have := O7.out; have := O9.out; have := O11.out; have := O12.out; have := O13.out; omega))
  have Rg_13 := hid (Rg_12.out.kept kp (by have := O0.out; have := O00.out; have := O1.out; have := O2.out; have := O3.out; have := O4.out; have := O4a.out; have := O5.out; have := O5a.out; have := O6.out; have := O7.out; have := O9.out; have := O11.out; have := O12.out; have := O13.out; omega))
  have M13 := hid hm13
  clear kp b13 hm13 Yy_12 B_12 XD_12 XS_12 Rw_12 Xx_12 Xy_12 Rg_12 cXD0_12 cXS0_12 cXS1_12 cXS2_12 cXS3_12 cXx0_12 cXy0_12 cXy1_12 cXy2_12 cXy3_12
  obtain ⟨N13, hN13⟩ : ∃ N, N12 + zs.length = N := ⟨_, rfl⟩
  have hNb13 : N13 ≤ 10000000 := by omega
  rw [hN13]
  have cXD0_13 := XD_13.out.cell (j := 0) rfl
  have cXS0_13 := XS_13.out.cell (j := 0) rfl
  have cXS1_13 := XS_13.out.cell (j := 1) rfl
  have cXS2_13 := XS_13.out.cell (j := 2) rfl
  have cXS3_13 := XS_13.out.cell (j := 3) rfl
  have cXx0_13 := Xx_13.out.cell (j := 0) rfl
  have cXy0_13 := Xy_13.out.cell (j := 0) rfl
  have cXy1_13 := Xy_13.out.cell (j := 1) rfl
  have cXy2_13 := Xy_13.out.cell (j := 2) rfl
  have cXy3_13 := Xy_13.out.cell (j := 3) rfl
  clear M13 hN13
  go_wp2_with fail
  refine (eqActS_same v6 v3 A c6 c3 (by omega) _ Rg_13.out.acts Rw_13.out.acts).mono ?_
  rintro e w14 ⟨rfl, b14⟩
  have O14 := hid b14.size
  have B_14 := hid (below_via B_13.out b14)
  have XD_14 := hid (XD_13.out.on b14 XD_13.out.lt)
  have XS_14 := hid (XS_13.out.on b14 XS_13.out.lt)
  have Rw_14 := hid (Rw_13.out.on b14)
  have Xx_14 := hid (Xx_13.out.on b14 Xx_13.out.lt)
  have Xy_14 := hid (Xy_13.out.on b14 Xy_13.out.lt)
  have Rg_14 := hid (Rg_13.out.on b14)
  clear b14 B_13 XD_13 XS_13 Rw_13 Xx_13 Xy_13 Rg_13 cXD0_13 cXS0_13 cXS1_13 cXS2_13 cXS3_13 cXx0_13 cXy0_13 cXy1_13 cXy2_13 cXy3_13
  have cXD0_14 := XD_14.out.cell (j := 0) rfl
  have cXS0_14 := XS_14.out.cell (j := 0) rfl
  have cXS1_14 := XS_14.out.cell (j := 1) rfl
  have cXS2_14 := XS_14.out.cell (j := 2) rfl
  have cXS3_14 := XS_14.out.cell (j := 3) rfl
  have cXx0_14 := Xx_14.out.cell (j := 0) rfl
  have cXy0_14 := Xy_14.out.cell (j := 0) rfl
  have cXy1_14 := Xy_14.out.cell (j := 1) rfl
  have cXy2_14 := Xy_14.out.cell (j := 2) rfl
  have cXy3_14 := Xy_14.out.cell (j := 3) rfl
  go_wp2_with fail
  refine (markActS_own v6 c6 A ((w5.alloc (.cells #[.int .i64 ix, .int .i64 tm, .slice v5 zs.length c5, .string bd] 24)).heap.size) (w6.heap.size) 1 (by omega) (by omega) _ (by have := O0.out; have := O00.out; have := O1.out; have := O2.out; have := O3.out; have := O4.out; have := O4a.out; have := O5.out; have := O5a.out; have := O6.out; have := O7.out; have := O9.out; have := O11.out; have := O12.out; have := O13.out; have := O14.out; omega) Rg_14.out).mono ?_
  rintro e w15 ⟨rfl, hm15, kp, b15⟩
  have O15 := hid b15.size
  have B_15 := hid (B_14.out.trans (b15.mono (by have := O0.out; have := O00.out; have := O1.out; have := O2.out; have := O3.out; have := O4.out; have := O4a.out; have := O5.out; have := O5a.out; have := O6.out; have := O7.out; have := O9.out; have := O11.out; have := O12.out; have := O13.out; have := O14.out; have := O15.out; omega)))
  have XD_15 := hid (XD_14.out.kept kp (by have := O0.out; have := O00.out; have := O1.out; have := O2.out; have := O3.out; have := O4.out; have := O4a.out; have := O5.out; have := O5a.out; have := O6.out; have := O7.out; have := O9.out; have := O11.out; have := O12.out; have := O13.out; have := O14.out; have := O15.out; omega))
  have XS_15 := hid (XS_14.out.kept kp (by have := O0.out; have := O00.out; have := O1.out; have := O2.out; have := O3.out; have := O4.out; have := O4a.out; have := O5.out; have := O5a.out; have := O6.out; have := O7.out; have := O9.out; have := O11.out; have := O12.out; have := O13.out; have := O14.out; have := O15.out; omega))
  have Rw_15 := hid (Rw_14.out.kept kp (by have := O0.out; have := O00.out; have := O1.out; have := O2.out; have := O3.out; have := O4.out; have := O4a.out; have := O5.out; have := O5a.out; have := O6.out; have := O7.out; have := O9.out; have := O11.out; have := O12.out; have := O13.out; have := O14.out; have := O15.out; omega))
  have Xx_15 := hid (Xx_14.out.kept kp (by have := O0.out; have := O00.out; have := O1.out; have := O2.out; have := O3.out; have := O4.out; have := O4a.out; have := O5.out; have := O5a.out; have := O6.out; have := O7.out; have := O9.out; have := O11.out; have := O12.out; have := O13.out; have := O14.out; have := O15.out; omega))
  have Xy_15 := hid (Xy_14.out.kept kp (by have := O0.out; have := O00.out; have := O1.out; have := O2.out; have := O3.out; have := O4.out; have := O4a.out; have := O5.out; have := O5a.out; have := O6.out; have := O7.out; have := O9.out; have := O11.out; have := O12.out; have := O13.out; have := O14.out; have := O15.out; omega))
  have M15 := hid hm15
  clear kp b15 hm15 Rg_14 B_14 XD_14 XS_14 Rw_14 Xx_14 Xy_14 cXD0_14 cXS0_14 cXS1_14 cXS2_14 cXS3_14 cXx0_14 cXy0_14 cXy1_14 cXy2_14 cXy3_14
  obtain ⟨N15, hN15⟩ : ∃ N, 1 + 4 * A.length = N := ⟨_, rfl⟩
  have hNb15 : N15 ≤ 10000000 := by omega
  rw [hN15]
  have cXD0_15 := XD_15.out.cell (j := 0) rfl
  have cXS0_15 := XS_15.out.cell (j := 0) rfl
  have cXS1_15 := XS_15.out.cell (j := 1) rfl
  have cXS2_15 := XS_15.out.cell (j := 2) rfl
  have cXS3_15 := XS_15.out.cell (j := 3) rfl
  have cXx0_15 := Xx_15.out.cell (j := 0) rfl
  have cXy0_15 := Xy_15.out.cell (j := 0) rfl
  have cXy1_15 := Xy_15.out.cell (j := 1) rfl
  have cXy2_15 := Xy_15.out.cell (j := 2) rfl
  have cXy3_15 := Xy_15.out.cell (j := 3) rfl
  have CH' := fun w h => heldActS_any v6 A.length c6 1 (by omega) (by omega) w h
  rw [hN15] at CH'
  have CH := hid CH'
  clear CH' hN15
  go_wp2_with fail
  refine (CH.out _ M15.out).mono ?_
  rintro e w16 ⟨rfl, b16⟩
  have O16 := hid b16.size
  have B_16 := hid (below_via B_15.out b16)
  have XD_16 := hid (XD_15.out.on b16 XD_15.out.lt)
  have XS_16 := hid (XS_15.out.on b16 XS_15.out.lt)
  have Rw_16 := hid (Rw_15.out.on b16)
  have Xx_16 := hid (Xx_15.out.on b16 Xx_15.out.lt)
  have Xy_16 := hid (Xy_15.out.on b16 Xy_15.out.lt)
  have M_16 := hid (M15.out.on b16)
  clear b16 B_15 XD_15 XS_15 Rw_15 Xx_15 Xy_15 M15 cXD0_15 cXS0_15 cXS1_15 cXS2_15 cXS3_15 cXx0_15 cXy0_15 cXy1_15 cXy2_15 cXy3_15
  have cXD0_16 := XD_16.out.cell (j := 0) rfl
  have cXS0_16 := XS_16.out.cell (j := 0) rfl
  have cXS1_16 := XS_16.out.cell (j := 1) rfl
  have cXS2_16 := XS_16.out.cell (j := 2) rfl
  have cXS3_16 := XS_16.out.cell (j := 3) rfl
  have cXx0_16 := Xx_16.out.cell (j := 0) rfl
  have cXy0_16 := Xy_16.out.cell (j := 0) rfl
  have cXy1_16 := Xy_16.out.cell (j := 1) rfl
  have cXy2_16 := Xy_16.out.cell (j := 2) rfl
  have cXy3_16 := Xy_16.out.cell (j := 3) rfl
  have HG0 := hid (show Below w16.heap.size w16 w16.drew from below_drewN (Below.refl _ _) 1)
  have CD : Hid (∀ W, Hid (Below w16.heap.size w16 W) → Calls Tryd.prog 14 #[.agg #[.slice ao l.length cap]] W fun e W' => ∃ va vc, e = .returned (.agg #[.slice va l.length vc]) ∧ (W'.cell? ⟨w.heap.size, 0, none⟩ = some (.slice ao l.length cap) ∧ W'.cell? ⟨w.heap.size + 1, 0, none⟩ = some (.int .i64 ix) ∧ W'.cell? ⟨w.heap.size + 1, 1, none⟩ = some (.int .i64 tm) ∧ W'.cell? ⟨w.heap.size + 1, 2, none⟩ = some (.slice so zs.length scap) ∧ W'.cell? ⟨w.heap.size + 1, 3, none⟩ = some (.string bd)) ∧ Hid (FilesAt W' va l) ∧ Hid (Below W.heap.size W W') ∧ Hid (Below w16.heap.size w16 W')) := by
    intro W hW
    refine Calls.mono (toDisk_o ao l cap hl2 W (HA.out.on (below_via B_16.out hW.out))) ?_
    rintro e W' ⟨va, vc, rfl, ho, hb⟩
    have hb2 := below_via hW.out hb
    exact ⟨va, vc, rfl, ⟨(XD_16.out.on hb2 XD_16.out.lt).cell (j := 0) rfl, (XS_16.out.on hb2 XS_16.out.lt).cell (j := 0) rfl, (XS_16.out.on hb2 XS_16.out.lt).cell (j := 1) rfl, (XS_16.out.on hb2 XS_16.out.lt).cell (j := 2) rfl, (XS_16.out.on hb2 XS_16.out.lt).cell (j := 3) rfl⟩, ho.files, hb, hb2⟩
  have CZ : Hid (∀ W, Hid (Below w16.heap.size w16 W) → Calls Tryd.prog 25 #[.agg #[.int .i64 ix, .int .i64 tm, .slice so zs.length scap, .string bd]] W fun e W' => ∃ va vc, e = .returned (.agg #[.int .i64 ix, .int .i64 tm, .slice va zs.length vc, .string bd]) ∧ (W'.cell? ⟨w.heap.size, 0, none⟩ = some (.slice ao l.length cap) ∧ W'.cell? ⟨w.heap.size + 1, 0, none⟩ = some (.int .i64 ix) ∧ W'.cell? ⟨w.heap.size + 1, 1, none⟩ = some (.int .i64 tm) ∧ W'.cell? ⟨w.heap.size + 1, 2, none⟩ = some (.slice so zs.length scap) ∧ W'.cell? ⟨w.heap.size + 1, 3, none⟩ = some (.string bd)) ∧ Hid (IntsAt W' va zs) ∧ Hid (Below W.heap.size W W') ∧ Hid (Below w16.heap.size w16 W')) := by
    intro W hW
    refine Calls.mono (toSnap_o ix tm so zs scap bd hzl W (HZ.out.on (below_via B_16.out hW.out))) ?_
    rintro e W' ⟨va, vc, rfl, ho, hb⟩
    have hb2 := below_via hW.out hb
    exact ⟨va, vc, rfl, ⟨(XD_16.out.on hb2 XD_16.out.lt).cell (j := 0) rfl, (XS_16.out.on hb2 XS_16.out.lt).cell (j := 0) rfl, (XS_16.out.on hb2 XS_16.out.lt).cell (j := 1) rfl, (XS_16.out.on hb2 XS_16.out.lt).cell (j := 2) rfl, (XS_16.out.on hb2 XS_16.out.lt).cell (j := 3) rfl⟩, ho.ints, hb, hb2⟩
  have CF : Hid (∀ W va vc sa sc, Hid (Below w16.heap.size w16 W) → Hid (FilesAt W va l) → Hid (IntsAt W sa zs) → Calls Tryd.prog 26 #[.agg #[.slice va l.length vc], .agg #[.int .i64 ix, .int .i64 tm, .slice sa zs.length sc, .string bd]] W fun e W' => ∃ vb vd, e = .returned (.tuple #[.slice vb A.length vd, .bool ok]) ∧ Hid (OwnAt W' 82 (actCells A) A.length vb w16.heap.size W'.heap.size) ∧ Hid (Below w16.heap.size w16 W')) := by
    intro W va vc sa sc hW hY hS
    refine Calls.mono (CI.out va vc sa sc W hY.out hS.out (steps_on HT.out (below_via B_16.out hW.out)) (table_on HTB.out (below_via B_16.out hW.out))) ?_
    rintro e W' ⟨vb, vd, rfl, ho, hb⟩
    exact ⟨vb, vd, rfl, ho.down hW.out.size (Nat.le_refl _), below_via hW.out hb⟩
  go_upto_region 31 with fail
  go_cut [15, 16] (fun sa sb wx => ∃ vb vd, sa = .slice vb A.length vd ∧ sb = .bool ok ∧ Hid (OwnAt wx 82 (actCells A) A.length vb w16.heap.size wx.heap.size) ∧ Hid (Below w16.heap.size w16 wx))
  case first =>
    go_region_with (first | (go_at_call 14; refine Calls.mono (CD.out _ HG0) ?_; rintro e wd ⟨vq, cq, rfl, ⟨m0, m1, m2, m3, m4⟩, HY, HBD, HGd⟩) | (go_at_call 25; refine Calls.mono (CZ.out _ HGd) ?_; rintro e wz ⟨vz, cz, rfl, ⟨m0, m1, m2, m3, m4⟩, HS, HBZ, HGz⟩; have HFl := hid (HY.out.on HBZ.out)) | (go_at_call 26; refine Calls.mono (CF.out _ _ _ _ _ HGz HFl HS) ?_; rintro e wf ⟨vb, vd, rfl, HO5, HGf⟩))
    all_goals
      go_wp2_with fail
      go_meet
      exact ⟨vb, vd, rfl, rfl, HO5, HGf⟩
  case rest =>
  obtain ⟨w17, hwc⟩ : ∃ W, W = wc := ⟨_, rfl⟩
  subst hwc
  obtain ⟨v17, c17, rfl, rfl, HO, HCX⟩ := hcut
  have bb := HCX.out
  have O17 := hid bb.size
  have B_17 := hid (below_via B_16.out bb)
  have XD_17 := hid (XD_16.out.on bb XD_16.out.lt)
  have XS_17 := hid (XS_16.out.on bb XS_16.out.lt)
  have Rw_17 := hid (Rw_16.out.on bb)
  have Xx_17 := hid (Xx_16.out.on bb Xx_16.out.lt)
  have Xy_17 := hid (Xy_16.out.on bb Xy_16.out.lt)
  have M_17 := hid (M_16.out.on bb)
  have Rh := hid HO.out
  clear bb HCX HO HG0 CD CZ CF B_16 XD_16 XS_16 Rw_16 Xx_16 Xy_16 M_16 cXD0_16 cXS0_16 cXS1_16 cXS2_16 cXS3_16 cXx0_16 cXy0_16 cXy1_16 cXy2_16 cXy3_16
  have cXD0_17 := XD_17.out.cell (j := 0) rfl
  have cXS0_17 := XS_17.out.cell (j := 0) rfl
  have cXS1_17 := XS_17.out.cell (j := 1) rfl
  have cXS2_17 := XS_17.out.cell (j := 2) rfl
  have cXS3_17 := XS_17.out.cell (j := 3) rfl
  have cXx0_17 := Xx_17.out.cell (j := 0) rfl
  have cXy0_17 := Xy_17.out.cell (j := 0) rfl
  have cXy1_17 := Xy_17.out.cell (j := 1) rfl
  have cXy2_17 := Xy_17.out.cell (j := 2) rfl
  have cXy3_17 := Xy_17.out.cell (j := 3) rfl
  go_wp2_with fail
  refine (eqActS_same v17 v3 A c17 c3 (by omega) _ Rh.out.acts Rw_17.out.acts).mono ?_
  rintro e w18 ⟨rfl, b18⟩
  have O18 := hid b18.size
  have B_18 := hid (below_via B_17.out b18)
  have XD_18 := hid (XD_17.out.on b18 XD_17.out.lt)
  have XS_18 := hid (XS_17.out.on b18 XS_17.out.lt)
  have Rw_18 := hid (Rw_17.out.on b18)
  have Xx_18 := hid (Xx_17.out.on b18 Xx_17.out.lt)
  have Xy_18 := hid (Xy_17.out.on b18 Xy_17.out.lt)
  have M_18 := hid (M_17.out.on b18)
  have Rh_18 := hid (Rh.out.on b18)
  clear b18 B_17 XD_17 XS_17 Rw_17 Xx_17 Xy_17 M_17 Rh cXD0_17 cXS0_17 cXS1_17 cXS2_17 cXS3_17 cXx0_17 cXy0_17 cXy1_17 cXy2_17 cXy3_17
  have cXD0_18 := XD_18.out.cell (j := 0) rfl
  have cXS0_18 := XS_18.out.cell (j := 0) rfl
  have cXS1_18 := XS_18.out.cell (j := 1) rfl
  have cXS2_18 := XS_18.out.cell (j := 2) rfl
  have cXS3_18 := XS_18.out.cell (j := 3) rfl
  have cXx0_18 := Xx_18.out.cell (j := 0) rfl
  have cXy0_18 := Xy_18.out.cell (j := 0) rfl
  have cXy1_18 := Xy_18.out.cell (j := 1) rfl
  have cXy2_18 := Xy_18.out.cell (j := 2) rfl
  have cXy3_18 := Xy_18.out.cell (j := 3) rfl
  go_wp2_with fail
  refine (CH.out _ M_18.out).mono ?_
  rintro e w19 ⟨rfl, b19⟩
  have O19 := hid b19.size
  have B_19 := hid (below_via B_18.out b19)
  have XD_19 := hid (XD_18.out.on b19 XD_18.out.lt)
  have XS_19 := hid (XS_18.out.on b19 XS_18.out.lt)
  have Rw_19 := hid (Rw_18.out.on b19)
  have Xx_19 := hid (Xx_18.out.on b19 Xx_18.out.lt)
  have Xy_19 := hid (Xy_18.out.on b19 Xy_18.out.lt)
  have M_19 := hid (M_18.out.on b19)
  have Rh_19 := hid (Rh_18.out.on b19)
  clear b19 B_18 XD_18 XS_18 Rw_18 Xx_18 Xy_18 M_18 Rh_18 cXD0_18 cXS0_18 cXS1_18 cXS2_18 cXS3_18 cXx0_18 cXy0_18 cXy1_18 cXy2_18 cXy3_18
  have cXD0_19 := XD_19.out.cell (j := 0) rfl
  have cXS0_19 := XS_19.out.cell (j := 0) rfl
  have cXS1_19 := XS_19.out.cell (j := 1) rfl
  have cXS2_19 := XS_19.out.cell (j := 2) rfl
  have cXS3_19 := XS_19.out.cell (j := 3) rfl
  have cXx0_19 := Xx_19.out.cell (j := 0) rfl
  have cXy0_19 := Xy_19.out.cell (j := 0) rfl
  have cXy1_19 := Xy_19.out.cell (j := 1) rfl
  have cXy2_19 := Xy_19.out.cell (j := 2) rfl
  have cXy3_19 := Xy_19.out.cell (j := 3) rfl
  go_wp2
  go_ret
  exact ⟨rfl, B_19.out⟩

theorem own : ownKnob Tryd.prog.godebug = none := by kernel_rfl
theorem laidOut : laidOutB Tryd.prog = true := by kernel_rfl
theorem rowed : varsRowed Tryd.prog Rows.fnExactSnapActsSpec.vars = true := by kernel_rfl
/-- what the row's list gives: what loop.example/g00232/impl.fourSteps holds -/
theorem table0 {W : World} (h : laidMetH Tryd.prog Rows.fnExactSnapActsRow.laid W) : Lib.TabIs Tryd.prog W "loop.example/g00232/impl.fourSteps" .u32 stepsTab := by
  have h1 : laidMet Tryd.prog Rows.fnExactSnapActsRow.laid W := h
  unfold Rows.fnExactSnapActsRow at h1
  have h2 := h1.tail.tail.tail
  rw [show (Rows.laid_loop_example_g00232_impl_fourSteps : DataW Unit) = Lib.tabData .u32 stepsTab by kernel_rfl] at h2
  exact Lib.tabIs_of_head (show Tryd.prog.globalNamed "loop.example/g00232/impl.fourSteps" = some 0 by kernel_rfl) (show (Tryd.prog.globals[0]?).map (·.type) = some 130 by kernel_rfl) Tryd.underlying130 Tryd.underlying123 (show Tryd.prog.cellsOf 123 = 1 by kernel_rfl) (show Tryd.prog.cellsOf 130 = 16 by kernel_rfl) h2
/-- what the row's list gives: what internal/strconv.uint64pow10 holds -/
theorem table1 {W : World} (h : laidMetH Tryd.prog Rows.fnExactSnapActsRow.laid W) : Lib.TabIs Tryd.prog W "internal/strconv.uint64pow10" .u64 Lib.pow10Tab := by
  have h1 : laidMet Tryd.prog Rows.fnExactSnapActsRow.laid W := h
  unfold Rows.fnExactSnapActsRow at h1
  have h2 := h1.tail.tail
  rw [show (Rows.laid_internal_strconv_uint64pow10 : DataW Unit) = Lib.tabData .u64 Lib.pow10Tab by kernel_rfl] at h2
  exact Lib.tabIs_of_head (show Tryd.prog.globalNamed "internal/strconv.uint64pow10" = some 1 by kernel_rfl) (show (Tryd.prog.globals[1]?).map (·.type) = some 138 by kernel_rfl) Tryd.underlying138 Tryd.underlying132 (show Tryd.prog.cellsOf 132 = 1 by kernel_rfl) (show Tryd.prog.cellsOf 138 = 20 by kernel_rfl) h2
set_option maxRecDepth 1000000 in
theorem contract (H : Type) (enc : TypeId × Value → H) (W : World) (base : Nat) (args : Array Value) (ds gs : List (DataW H)) (before : List MemPlace)
    (hval : ∀ (j : Nat) t v, Tryd.f6.params[j]? = some t → args[j]? = some v → Value.okWide Tryd.prog W .any base t v)
    (hW : DataW.Whole enc Tryd.prog Tryd.f6.params.toList Rows.fnExactSnapActsSpec.vars false W args.toList ds gs before) (hL : laidMetH Tryd.prog Rows.fnExactSnapActsRow.laid W) :
    Calls Tryd.prog 6 args W fun e W' => ∃ v, e = .returned v ∧ Rows.fnExactSnapActsSpec.post enc Tryd.prog Tryd.f6 false true false false W args v W' := by
  have hW' := hW
  obtain ⟨p, q, hA0, hV0, rfl, hfz, hnd⟩ := hW
  have hV : DataW.TrodVars enc Tryd.prog W (fun _ => true) Rows.fnExactSnapActsSpec.vars gs q := hV0
  have hA : DataW.TrodAll enc Tryd.prog W 0 (fun _ => true) true Tryd.f6.params.toList args.toList ds p := hA0
  rw [Tryd.params6] at hA hval
  obtain ⟨v0, vs0, d0, ds0, p0, q0, hargs0, rfl, rfl, h0, r0⟩ := trodAll_cons hA
  obtain ⟨v1, vs1, d1, ds1, p1, q1, hargs1, rfl, rfl, h1, r1⟩ := trodAll_cons r0
  subst hargs1
  obtain ⟨rfl, rfl, rfl⟩ := trodAll_nil r1
  obtain rfl : args = #[v0, v1] := by cases args; simp_all
  have k0 := h0
  have lt0 : ∀ x ∈ p0, x.block < W.heap.size := by obtain ⟨m, hm⟩ := k0; exact DataW.trod_lt m _ _ _ hm
  obtain ⟨a0, l0, cap0, rfl, hc0, hm0, hat0, hfit0, hkept0⟩ := open_disk (hval 0 32 v0 rfl rfl) h0
  have k1 := h1
  have lt1 : ∀ x ∈ p1, x.block < W.heap.size := by obtain ⟨m, hm⟩ := k1; exact DataW.trod_lt m _ _ _ hm
  obtain ⟨ix1, tm1, a1, zs1, cap1, bd1, rfl, hi1, ht1, hb1, hc1, hm1, hat1, hfit1⟩ := open_snap (hval 1 46 v1 rfl rfl) h1
  clear hA0 hV0
  have hgs : gs.length = 1 := by
    have := hV
    clear hV hW' hL
    match gs, this with
    | [_], _ => rfl
  match gs, hgs, hV, hW' with
  | [g0], _, hV, hW' =>
    refine (walk a0 l0 cap0 (Nat.le_trans hc0 hm0) hfit0 hkept0 ix1 tm1 hi1 ht1 a1 zs1 cap1 bd1 hb1 (Nat.le_trans hc1 hm1) hfit1 W hat0 hat1 (table0 hL) (table1 hL)).mono fun e W' ⟨he, bel⟩ => ?_
    subst he
    exact ⟨_, rfl, _, _, _, [], _, _, hW', trodAll_mk1 (shut_bool Tryd.underlying4 _), trodAll_cons_mk (Below.trod laidOut (by kernel_rfl) (of_decide_eq_true (by kernel_rfl)) k0 bel lt0) (trodAll_cons_mk (Below.trod laidOut (by kernel_rfl) (of_decide_eq_true (by kernel_rfl)) k1 bel lt1) (trodAll_mk0)), Below.trodVars laidOut bel rowed hV, bel.frame _, fun h => by cases h⟩

def put (cs : Array Value) : Obj → Obj
  | .cells _ t frozen => .cells cs t frozen
  | o => o

/-- a world for the witness: the tables hold what their initialisers lay -/
def laidWorld (w : World) : World := { w with heap := ((((w.heap.modify 2 (put (([0, 1, 28, 2, 29, 14, 24, 3, 30, 22, 20, 15, 25, 17, 4, 8, 31, 27, 13, 23, 21, 19, 16, 7, 26, 12, 18, 6, 11, 5, 10, 9] : List Int).map (Value.int .u8)).toArray)).modify 3 (put (([0, 1, 56, 2, 57, 49, 28, 3, 61, 58, 42, 50, 38, 29, 17, 4, 62, 47, 59, 36, 45, 43, 51, 22, 53, 39, 33, 30, 24, 18, 12, 5, 63, 55, 48, 27, 60, 41, 37, 16, 46, 35, 44, 21, 52, 32, 23, 11, 54, 26, 40, 15, 34, 20, 31, 10, 25, 14, 19, 9, 13, 8, 7, 6] : List Int).map (Value.int .u8)).toArray)).modify 1 (put (([1, 10, 100, 1000, 10000, 100000, 1000000, 10000000, 100000000, 1000000000, 10000000000, 100000000000, 1000000000000, 10000000000000, 100000000000000, 1000000000000000, 10000000000000000, 100000000000000000, 1000000000000000000, 10000000000000000000] : List Int).map (Value.int .u64)).toArray)).modify 0 (put (([0, 1166650509, 2333301018, 3466261911, 3189058079, 4221339282, 889615109, 1888477064, 3558460437, 2442158232, 1594529039, 444807554, 1779230218, 797264519, 3776954128, 2761298845] : List Int).map (Value.int .u32)).toArray)) }
theorem laid_met (os : Os) : laidMet Tryd.prog Rows.fnExactSnapActsRow.laid ((laidWorld (World.holding Tryd.prog os ⟨#[], #[], []⟩)).forCall (fun _ _ => 0) ⟨#[], #[.agg #[.slice none 0 0], .agg #[.int .i64 0, .int .i64 0, .slice none 0 0, .string ByteArray.empty]], []⟩).memory :=
  laidMet_of_run' 8 (by kernel_rfl) (by kernel_rfl)
theorem reads (os : Os) {H : Type} (enc : TypeId × Value → H) : ∃ places, DataW.whole enc Tryd.prog ((laidWorld (World.holding Tryd.prog os ⟨#[], #[], []⟩)).forCall (fun _ _ => 0) ⟨#[], #[.agg #[.slice none 0 0], .agg #[.int .i64 0, .int .i64 0, .slice none 0 0, .string ByteArray.empty]], []⟩).memory Tryd.f6.params.toList Rows.fnExactSnapActsSpec.vars false #[Value.agg #[.slice none 0 0], .agg #[.int .i64 0, .int .i64 0, .slice none 0 0, .string ByteArray.empty]].toList 8 = some ([.agg [.nil], .agg [.lit (.int .i64 0), .lit (.int .i64 0), .nil, .lit (.string [])]], [Rows.laid_loop_example_g00232_impl_fourSteps], places) :=
  ⟨(List.range 16).map (MemPlace.cell 0), by kernel_rfl⟩

set_option maxRecDepth 1000000 in
theorem lifted (os : Os) (started : os.Started) (H : Type) (enc : TypeId × Value → H) (F : Stop.Interp) :
    ReturnsInHanded {} Tryd.checked os 6 .any ((OpenSpec.ofChange Rows.fnExactSnapActsSpec).preRow enc Tryd.prog Tryd.f6 Rows.fnExactSnapActsRow.domain false Rows.fnExactSnapActsRow.laid) (((OpenSpec.ofChange Rows.fnExactSnapActsSpec).at F).post enc Tryd.prog Tryd.f6 false true false false) := by
  obtain ⟨places, hx⟩ := reads os enc
  refine returnsInHanded_of_row (C := Tryd.checked) (s := OpenSpec.ofChange Rows.fnExactSnapActsSpec) own started (by kernel_rfl) Tryd.func6
    (witness_row_at (enc := enc) (C := Tryd.checked) false (laidWorld (World.holding Tryd.prog os ⟨#[], #[], []⟩)) #[.agg #[.slice none 0 0], .agg #[.int .i64 0, .int .i64 0, .slice none 0 0, .string ByteArray.empty]] rfl (by kernel_rfl) (by kernel_rfl) (by kernel_rfl)
      (OpenSpec.preRow_of_cond 8 hx (by kernel_rfl) (fun k hk => by cases hk) (by kernel_rfl) (laid_met os))) ?_
  intro W base args ds gs before hval hW _ _ _ hL _ _
  exact contract H enc W base args ds gs before hval hW hL

theorem said : Rows.FnExactSnapActsSaid :=
  OpenClaim.holds_of_cond 6 Tryd.f6 rfl rfl rfl rfl rfl rfl rfl ⟨rfl, rfl, rfl, rfl, rfl⟩ rfl rfl rfl rfl rfl (by kernel_rfl) Tryd.func6 (by kernel_rfl)
    (of_decide_eq_true (by kernel_rfl)) (by unfold Func.isWrapper; first | (rw [if_pos (by decide +kernel)]; kernel_rfl) | (rw [if_neg (by decide +kernel)]; exact ⟨rfl, rfl⟩))
    (fun os started H enc _ F => by rw [OpenClaim.pre_eq_preRow]; exact lifted os started H enc F)

theorem plain (f : FuncId) (fn : Func) (hf : Tryd.pinned.checked.prog.funcNamed "loop.example/g00232/laws.FnExactSnapActs" = some f) (hfn : Tryd.pinned.checked.prog.funcs[f]? = some fn) :
    true = Tryd.pinned.checked.prog.looks [] ∧ ∀ (j : Nat) t, fn.params[j]? = some t → Tryd.pinned.checked.prog.wantsStandIn t = false := by
  obtain rfl : f = 6 := Option.some.inj ((show Tryd.prog.funcNamed "loop.example/g00232/laws.FnExactSnapActs" = some 6 by kernel_rfl).symm.trans hf) |>.symm
  obtain rfl : fn = Tryd.f6 := (Option.some.inj (Tryd.func6.symm.trans hfn)).symm
  refine ⟨by kernel_rfl, fun j t ht => ?_⟩
  rw [Tryd.params6] at ht
  rcases (show t = 32 ∨ t = 46 by simpa using Array.mem_of_getElem? ht) with rfl | rfl
  · exact (show Tryd.prog.wantsStandIn 32 = false by kernel_rfl)
  · exact (show Tryd.prog.wantsStandIn 46 = false by kernel_rfl)

theorem card : Rows.FnExactSnapActsCardSaid :=
  Claim7.holds_tied_plain_at .later [] _ _ _ _ said (fun _ h => by cases h) (by kernel_rfl) (fun _ h => by cases h) fnExactSnapActs_row_tie rfl ⟨rfl, rfl⟩ (by kernel_rfl) rfl plain (by kernel_rfl)
end Go.Proofs.YtggogiepebnckaaDoor.fnExactSnapActs
