/-
  For every argument, laws.FnExactDoAct returns true: impl.DoAct and spec.DoAct answer alike, no argument is written, the answer owns its memory; nothing that was in memory is written.
-/
import Derived.Test.YthkfgiilbkjojaaRows
import Derived.Test.YthkfgiilbkjojaaOpenDisk
import Derived.Test.YthkfgiilbkjojaaOpenAct
import Derived.Test.YthkfgiilbkjojaaExactAct
import Derived.Test.YthkfgiilbkjojaaExactBox
import Derived.Test.YthkfgiilbkjojaaDoBothI
import Derived.Deep.DeepCutAuto
import Derived.Deep.RegionWith
import Derived.WalkSmall
import Derived.WalkKit
import Derived.ProofKit
import Derived.OpenShut
import Derived.OpenVars
import Derived.Deep.DeepHandedRow
import Derived.Lib.LaidTab
import Derived.Stop.LaidErr
namespace Go.Proofs.Ythkfgiilbkjojaa.fnExactDoAct
open Go.ChangeShapes Go.WideShapes Go.ChangeAt Go.ChangeMaps Go.RowKit

set_option maxRecDepth 1000000 in
set_option maxHeartbeats 8000000 in
theorem walk (ao : Option Addr) (l : List FileD) (cap : Nat) (hl : l.length ≤ maxLen) (hf : FilesFit l) (_hk : KeptFit l) (a : ActD) (haf : a.Fits) (_hkf : a.KindFits) (w : World) (ha : FilesAt w ao l) :
    Calls Try.prog 6 #[.agg #[.slice ao l.length cap], a.value] w fun e w' => e = .returned (.bool true) ∧ Below w.heap.size w w' := by
  have HA := hid ha
  have hx0 : BlockIs (w.alloc (.cells #[.slice ao l.length cap] 51)) w.heap.size 51 [.slice ao l.length cap] := heap_alloc_new w _
  have X_disk := hid (hx0.on (below_more (Below.refl _ _) (.cells #[.int .i64 a.kind, .string a.name, .string a.text, .string a.to] 55)) hx0.lt)
  have hx1 : BlockIs ((w.alloc (.cells #[.slice ao l.length cap] 51)).alloc (.cells #[.int .i64 a.kind, .string a.name, .string a.text, .string a.to] 55)) (w.heap.size + 1) 55 [.int .i64 a.kind, .string a.name, .string a.text, .string a.to] := by
    have := heap_alloc_new (w.alloc (.cells #[.slice ao l.length cap] 51)) (.cells #[.int .i64 a.kind, .string a.name, .string a.text, .string a.to] 55)
    rw [show (w.alloc (.cells #[.slice ao l.length cap] 51)).heap.size = w.heap.size + 1 by simp [World.alloc, -World.alloc_eq]] at this
    exact this
  have X_act := hid hx1
  have HB := hid (below_more (below_more (Below.refl w.heap.size w) (.cells #[.slice ao l.length cap] 51)) (.cells #[.int .i64 a.kind, .string a.name, .string a.text, .string a.to] 55))
  clear hx0 hx1
  have O0 := hid X_disk.out.lt
  have O00 := hid X_act.out.lt
  clear ha
  unfold ActD.value
  go_enter Try.func6, Try.ntmps6
  go_wp2_with fail
  refine (szDisk_any ao l cap 1048576 (by omega) (by omega) hl hf _ (HA.out.on HB.out)).mono ?_
  rintro e w1 ⟨hor, b1⟩
  have O1 := hid b1.size
  have X_disk_1 := hid (X_disk.out.on b1 X_disk.out.lt)
  have X_act_1 := hid (X_act.out.on b1 X_act.out.lt)
  have B_1 := hid (below_via HB.out b1)
  clear b1 X_disk X_act HB
  have cX_disk0_1 := X_disk_1.out.cell (j := 0) rfl
  have cX_act0_1 := X_act_1.out.cell (j := 0) rfl
  have cX_act1_1 := X_act_1.out.cell (j := 1) rfl
  have cX_act2_1 := X_act_1.out.cell (j := 2) rfl
  have cX_act3_1 := X_act_1.out.cell (j := 3) rfl
  rcases hor with ⟨hneg, rfl⟩ | ⟨hnn, rfl⟩
  · go_wp2
    go_ret
    exact ⟨rfl, B_1.out⟩
  have hl2 := (filesSmall hnn).1
  have HSM := hid (filesSmall hnn).2
  go_wp2_with fail
  refine (szAct_o a (1048576 - l.length - fileBulk l) (by omega) (by have := fileBulk_nonneg l; omega) haf _).mono ?_
  rintro e w2 ⟨hor, b2⟩
  have O2 := hid b2.size
  have X_disk_2 := hid (X_disk_1.out.on b2 X_disk_1.out.lt)
  have X_act_2 := hid (X_act_1.out.on b2 X_act_1.out.lt)
  have B_2 := hid (below_via B_1.out b2)
  clear b2 X_disk_1 X_act_1 B_1 cX_disk0_1 cX_act0_1 cX_act1_1 cX_act2_1 cX_act3_1
  have cX_disk0_2 := X_disk_2.out.cell (j := 0) rfl
  have cX_act0_2 := X_act_2.out.cell (j := 0) rfl
  have cX_act1_2 := X_act_2.out.cell (j := 1) rfl
  have cX_act2_2 := X_act_2.out.cell (j := 2) rfl
  have cX_act3_2 := X_act_2.out.cell (j := 3) rfl
  rcases hor with ⟨hneg, rfl⟩ | ⟨hnn2, rfl⟩
  · go_wp2
    go_ret
    exact ⟨rfl, B_2.out⟩
  have ham := actSmall hnn hnn2
  clear hf hl
  obtain ⟨A, ok, hF⟩ : ∃ A ok, doAns l a = (A, ok) := ⟨_, _, rfl⟩
  have hA2 : A.length ≤ 1048576 := by have := doAns_small (l := l) (a := a); rw [hF] at this; exact this
  have zb0 : (w2.alloc (.cells #[.slice none 0 0] 26)).cell? ⟨w.heap.size, 0, none⟩ = some (.slice ao l.length cap) := (X_disk_2.out.more _).cell (j := 0) rfl
  have zb1 : (w2.alloc (.cells #[.slice none 0 0] 26)).cell? ⟨w.heap.size + 1, 0, none⟩ = some (.int .i64 a.kind) := (X_act_2.out.more _).cell (j := 0) rfl
  have zb2 : (w2.alloc (.cells #[.slice none 0 0] 26)).cell? ⟨w.heap.size + 1, 1, none⟩ = some (.string a.name) := (X_act_2.out.more _).cell (j := 1) rfl
  have zb3 : (w2.alloc (.cells #[.slice none 0 0] 26)).cell? ⟨w.heap.size + 1, 2, none⟩ = some (.string a.text) := (X_act_2.out.more _).cell (j := 2) rfl
  have zb4 : (w2.alloc (.cells #[.slice none 0 0] 26)).cell? ⟨w.heap.size + 1, 3, none⟩ = some (.string a.to) := (X_act_2.out.more _).cell (j := 3) rfl
  have HG0 := hid (show Below w2.heap.size w2 w2.drew from below_drewN (Below.refl _ _) 1)
  have CD : Hid (∀ W, Hid (Below w2.heap.size w2 W) → Calls Try.prog 27 #[.agg #[.slice ao l.length cap]] W fun e W' => ∃ va vc, e = .returned (.agg #[.slice va l.length vc]) ∧ (W'.cell? ⟨w.heap.size, 0, none⟩ = some (.slice ao l.length cap) ∧ W'.cell? ⟨w.heap.size + 1, 0, none⟩ = some (.int .i64 a.kind) ∧ W'.cell? ⟨w.heap.size + 1, 1, none⟩ = some (.string a.name) ∧ W'.cell? ⟨w.heap.size + 1, 2, none⟩ = some (.string a.text) ∧ W'.cell? ⟨w.heap.size + 1, 3, none⟩ = some (.string a.to) ∧ (W'.alloc (.cells #[.slice none 0 0] 26)).cell? ⟨w.heap.size, 0, none⟩ = some (.slice ao l.length cap) ∧ (W'.alloc (.cells #[.slice none 0 0] 26)).cell? ⟨w.heap.size + 1, 0, none⟩ = some (.int .i64 a.kind) ∧ (W'.alloc (.cells #[.slice none 0 0] 26)).cell? ⟨w.heap.size + 1, 1, none⟩ = some (.string a.name) ∧ (W'.alloc (.cells #[.slice none 0 0] 26)).cell? ⟨w.heap.size + 1, 2, none⟩ = some (.string a.text) ∧ (W'.alloc (.cells #[.slice none 0 0] 26)).cell? ⟨w.heap.size + 1, 3, none⟩ = some (.string a.to)) ∧ Hid (FilesAt W' va l) ∧ Hid (Below W.heap.size W W') ∧ Hid (Below w2.heap.size w2 W')) := by
    intro W hW
    refine Calls.mono (toDisk_o ao l cap hl2 W (HA.out.on (below_via B_2.out hW.out))) ?_
    rintro e W' ⟨va, vc, rfl, ho, hb⟩
    have hb2 := below_via hW.out hb
    exact ⟨va, vc, rfl, ⟨(X_disk_2.out.on hb2 X_disk_2.out.lt).cell (j := 0) rfl, (X_act_2.out.on hb2 X_act_2.out.lt).cell (j := 0) rfl, (X_act_2.out.on hb2 X_act_2.out.lt).cell (j := 1) rfl, (X_act_2.out.on hb2 X_act_2.out.lt).cell (j := 2) rfl, (X_act_2.out.on hb2 X_act_2.out.lt).cell (j := 3) rfl, ((X_disk_2.out.on hb2 X_disk_2.out.lt).more _).cell (j := 0) rfl, ((X_act_2.out.on hb2 X_act_2.out.lt).more _).cell (j := 0) rfl, ((X_act_2.out.on hb2 X_act_2.out.lt).more _).cell (j := 1) rfl, ((X_act_2.out.on hb2 X_act_2.out.lt).more _).cell (j := 2) rfl, ((X_act_2.out.on hb2 X_act_2.out.lt).more _).cell (j := 3) rfl⟩, ho.files, hb, hb2⟩
  have CA : Hid (∀ W, Hid (Below w2.heap.size w2 W) → Calls Try.prog 31 #[.agg #[.int .i64 a.kind, .string a.name, .string a.text, .string a.to]] W fun e W' => e = .returned (.agg #[.int .i64 a.kind, .string a.name, .string a.text, .string a.to]) ∧ (W'.cell? ⟨w.heap.size, 0, none⟩ = some (.slice ao l.length cap) ∧ W'.cell? ⟨w.heap.size + 1, 0, none⟩ = some (.int .i64 a.kind) ∧ W'.cell? ⟨w.heap.size + 1, 1, none⟩ = some (.string a.name) ∧ W'.cell? ⟨w.heap.size + 1, 2, none⟩ = some (.string a.text) ∧ W'.cell? ⟨w.heap.size + 1, 3, none⟩ = some (.string a.to) ∧ (W'.alloc (.cells #[.slice none 0 0] 26)).cell? ⟨w.heap.size, 0, none⟩ = some (.slice ao l.length cap) ∧ (W'.alloc (.cells #[.slice none 0 0] 26)).cell? ⟨w.heap.size + 1, 0, none⟩ = some (.int .i64 a.kind) ∧ (W'.alloc (.cells #[.slice none 0 0] 26)).cell? ⟨w.heap.size + 1, 1, none⟩ = some (.string a.name) ∧ (W'.alloc (.cells #[.slice none 0 0] 26)).cell? ⟨w.heap.size + 1, 2, none⟩ = some (.string a.text) ∧ (W'.alloc (.cells #[.slice none 0 0] 26)).cell? ⟨w.heap.size + 1, 3, none⟩ = some (.string a.to)) ∧ Hid (Below W.heap.size W W') ∧ Hid (Below w2.heap.size w2 W')) := by
    intro W hW
    refine Calls.mono (toAct_o a W) ?_
    rintro e W' ⟨rfl, hb⟩
    have hb2 := below_via hW.out hb
    exact ⟨rfl, ⟨(X_disk_2.out.on hb2 X_disk_2.out.lt).cell (j := 0) rfl, (X_act_2.out.on hb2 X_act_2.out.lt).cell (j := 0) rfl, (X_act_2.out.on hb2 X_act_2.out.lt).cell (j := 1) rfl, (X_act_2.out.on hb2 X_act_2.out.lt).cell (j := 2) rfl, (X_act_2.out.on hb2 X_act_2.out.lt).cell (j := 3) rfl, ((X_disk_2.out.on hb2 X_disk_2.out.lt).more _).cell (j := 0) rfl, ((X_act_2.out.on hb2 X_act_2.out.lt).more _).cell (j := 0) rfl, ((X_act_2.out.on hb2 X_act_2.out.lt).more _).cell (j := 1) rfl, ((X_act_2.out.on hb2 X_act_2.out.lt).more _).cell (j := 2) rfl, ((X_act_2.out.on hb2 X_act_2.out.lt).more _).cell (j := 3) rfl⟩, hb, hb2⟩
  have CF : Hid (∀ W va vc, Hid (Below w2.heap.size w2 W) → Hid (FilesAt W va l) → Calls Try.prog 30 #[.agg #[.slice va l.length vc], .agg #[.int .i64 a.kind, .string a.name, .string a.text, .string a.to]] W fun e W' => ∃ vb vd, e = .returned (.tuple #[.agg #[.slice vb A.length vd], .bool ok]) ∧ Hid (OwnAt W' 36 (fileCells A) A.length vb w2.heap.size W'.heap.size) ∧ Hid (Below W.heap.size W W') ∧ Hid (Below w2.heap.size w2 W')) := by
    intro W va vc hW hY
    have CQ := specDoAct_o _ l vc a hl2 ham.2.1 _ hY.out
    rw [hF] at CQ
    dsimp only at CQ
    refine Calls.mono CQ ?_
    rintro e W' ⟨vb, vd, rfl, ho, hb⟩
    exact ⟨vb, vd, rfl, ho.down hW.out.size (Nat.le_refl _), hb, below_via hW.out hb⟩
  go_upto_region 8 with fail
  go_cut [6, 7] (fun sa sb wx => ∃ Bx vb vd, sa = .pointer (some ⟨Bx, 0, none⟩) ∧ sb = .bool ok ∧ Hid (BoxRow w2 wx Bx vb A.length vd (fileCells A)))
  case first =>
    go_region_with (first | (go_at_call 27; refine Calls.mono (CD.out _ (by first | exact HG0 | exact hid (below_via HG0.out (below_more (Below.refl _ _) _)))) ?_; rintro e wd ⟨vq, cq, rfl, ⟨m0, m1, m2, m3, m4, m5, m6, m7, m8, m9⟩, HY, HBD, HGd⟩; (first | (have HXd := hid (box_on0 HBD.out); have cBd := HXd.out.2.cell (j := 0) rfl; have fBd := HXd.out.2.thaw 0) | (have HXd := hid (box_on HG0.out HBD.out); have cBd := HXd.out.2.cell (j := 0) rfl; have fBd := HXd.out.2.thaw 0) | skip)) | (go_at_call 31; refine Calls.mono (CA.out _ (by first | exact HGd | exact hid (below_via HGd.out (below_more (Below.refl _ _) _)))) ?_; rintro e wa ⟨rfl, ⟨m0, m1, m2, m3, m4, m5, m6, m7, m8, m9⟩, HBA, HGa⟩; have HFl : Hid (FilesAt wa vq l) := (by first | exact hid (HY.out.on HBA.out) | exact hid (HY.out.on (below_via (below_more (Below.refl _ _) _) HBA.out))); (first | (have HXa := hid (box_carry HXd.out HBA.out); have cBa := HXa.out.2.cell (j := 0) rfl; have fBa := HXa.out.2.thaw 0) | (have HXa := hid (box_on0 HBA.out); have cBa := HXa.out.2.cell (j := 0) rfl; have fBa := HXa.out.2.thaw 0) | (have HXa := hid (box_on HGd.out HBA.out); have cBa := HXa.out.2.cell (j := 0) rfl; have fBa := HXa.out.2.thaw 0) | skip)) | (go_at_call 30; refine Calls.mono (CF.out _ _ _ (by first | exact HGa | exact hid (below_via HGa.out (below_more (Below.refl _ _) _))) (by first | exact HFl | exact hid (HFl.out.on (below_more (Below.refl _ _) _)))) ?_; rintro e wf ⟨vb, vd, rfl, HZ5, HBF, HGf⟩; (first | (have HXf := hid (box_carry HXa.out HBF.out); have cBf := HXf.out.2.cell (j := 0) rfl; have fBf := HXf.out.2.thaw 0) | (have HXf := hid (box_on0 HBF.out); have cBf := HXf.out.2.cell (j := 0) rfl; have fBf := HXf.out.2.thaw 0) | (have HXf := hid (box_on HGa.out HBF.out); have cBf := HXf.out.2.cell (j := 0) rfl; have fBf := HXf.out.2.thaw 0) | skip)))
    all_goals
      go_wp2_with fail
      go_meet
      first | exact ⟨_, vb, vd, rfl, rfl, boxRow_last HGf.out HZ5.out⟩ | exact ⟨_, vb, vd, rfl, rfl, boxRow_ahead HGf.out HZ5.out HXf.out⟩
  case rest =>
  obtain ⟨wc3, hwc⟩ : ∃ W, W = wc := ⟨_, rfl⟩
  subst hwc
  obtain ⟨B3, v3, c3, rfl, rfl, HC3⟩ := hcut
  have bb := HC3.out.1
  have O3 := hid bb.size
  have O3c := hid HC3.out.2.1.lt
  have X_disk_3 := hid (X_disk_2.out.on bb X_disk_2.out.lt)
  have X_act_3 := hid (X_act_2.out.on bb X_act_2.out.lt)
  have B_3 := hid (below_via B_2.out bb)
  have X_w_3 := hid HC3.out.2.1
  have R_w_3 := hid HC3.out.2.2
  clear bb HC3 HG0 CA CF CD zb0 zb1 zb2 zb3 zb4  X_disk_2 X_act_2 B_2 cX_disk0_2 cX_act0_2 cX_act1_2 cX_act2_2 cX_act3_2
  have cX_disk0_3 := X_disk_3.out.cell (j := 0) rfl
  have cX_act0_3 := X_act_3.out.cell (j := 0) rfl
  have cX_act1_3 := X_act_3.out.cell (j := 1) rfl
  have cX_act2_3 := X_act_3.out.cell (j := 2) rfl
  have cX_act3_3 := X_act_3.out.cell (j := 3) rfl
  have cX_w0_3 := X_w_3.out.cell (j := 0) rfl
  go_wp2_with fail
  refine (toDisk_o ao l cap hl2 _ (HA.out.on B_3.out)).mono ?_
  rintro e w4 ⟨v4, c4, rfl, h4, b4⟩
  have O4 := hid b4.size
  have Y4 := hid h4
  clear h4
  have X_disk_4 := hid (X_disk_3.out.on b4 X_disk_3.out.lt)
  have X_act_4 := hid (X_act_3.out.on b4 X_act_3.out.lt)
  have B_4 := hid (below_via B_3.out b4)
  have X_w_4 := hid (X_w_3.out.on b4 X_w_3.out.lt)
  have R_w_4 := hid (R_w_3.out.on b4)
  clear b4 X_disk_3 X_act_3 B_3 X_w_3 R_w_3 cX_disk0_3 cX_act0_3 cX_act1_3 cX_act2_3 cX_act3_3 cX_w0_3
  have cX_disk0_4 := X_disk_4.out.cell (j := 0) rfl
  have cX_act0_4 := X_act_4.out.cell (j := 0) rfl
  have cX_act1_4 := X_act_4.out.cell (j := 1) rfl
  have cX_act2_4 := X_act_4.out.cell (j := 2) rfl
  have cX_act3_4 := X_act_4.out.cell (j := 3) rfl
  have cX_w0_4 := X_w_4.out.cell (j := 0) rfl
  have ba := below_more (Below.refl w4.heap.size w4) (.cells #[.slice v4 l.length c4] 26)
  have hx : BlockIs (w4.alloc (.cells #[.slice v4 l.length c4] 26)) w4.heap.size 26 [.slice v4 l.length c4] := heap_alloc_new w4 _
  have X_disk_4a := hid (X_disk_4.out.on ba X_disk_4.out.lt)
  have X_act_4a := hid (X_act_4.out.on ba X_act_4.out.lt)
  have B_4a := hid (below_via B_4.out ba)
  have X_w_4a := hid (X_w_4.out.on ba X_w_4.out.lt)
  have R_w_4a := hid (R_w_4.out.on ba)
  have Y4_4a := hid (Y4.out.on ba)
  have X_x_4a := hid hx
  have O4a := hid hx.lt
  clear ba hx X_disk_4 X_act_4 B_4 X_w_4 R_w_4 Y4
  have cX_disk0_4a := X_disk_4a.out.cell (j := 0) rfl
  have cX_act0_4a := X_act_4a.out.cell (j := 0) rfl
  have cX_act1_4a := X_act_4a.out.cell (j := 1) rfl
  have cX_act2_4a := X_act_4a.out.cell (j := 2) rfl
  have cX_act3_4a := X_act_4a.out.cell (j := 3) rfl
  have cX_w0_4a := X_w_4a.out.cell (j := 0) rfl
  have cX_x0_4a := X_x_4a.out.cell (j := 0) rfl
  obtain ⟨wn4, hwn⟩ : ∃ W, w4.alloc (.cells #[.slice v4 l.length c4] 26) = W := ⟨_, rfl⟩
  rw [hwn] at X_disk_4a X_act_4a B_4a X_w_4a R_w_4a Y4_4a X_x_4a cX_disk0_4a cX_act0_4a cX_act1_4a cX_act2_4a cX_act3_4a cX_w0_4a cX_x0_4a O4a
  have zb0 : (wn4.alloc (.cells #[.slice none 0 0] 26)).cell? ⟨w.heap.size, 0, none⟩ = some (.slice ao l.length cap) := (X_disk_4a.out.more _).cell (j := 0) rfl
  have zb1 : (wn4.alloc (.cells #[.slice none 0 0] 26)).cell? ⟨w.heap.size + 1, 0, none⟩ = some (.int .i64 a.kind) := (X_act_4a.out.more _).cell (j := 0) rfl
  have zb2 : (wn4.alloc (.cells #[.slice none 0 0] 26)).cell? ⟨w.heap.size + 1, 1, none⟩ = some (.string a.name) := (X_act_4a.out.more _).cell (j := 1) rfl
  have zb3 : (wn4.alloc (.cells #[.slice none 0 0] 26)).cell? ⟨w.heap.size + 1, 2, none⟩ = some (.string a.text) := (X_act_4a.out.more _).cell (j := 2) rfl
  have zb4 : (wn4.alloc (.cells #[.slice none 0 0] 26)).cell? ⟨w.heap.size + 1, 3, none⟩ = some (.string a.to) := (X_act_4a.out.more _).cell (j := 3) rfl
  have zb5 : (wn4.alloc (.cells #[.slice none 0 0] 26)).cell? ⟨B3, 0, none⟩ = some (.slice v3 A.length c3) := (X_w_4a.out.more _).cell (j := 0) rfl
  have zb6 : (wn4.alloc (.cells #[.slice none 0 0] 26)).cell? ⟨w4.heap.size, 0, none⟩ = some (.slice v4 l.length c4) := (X_x_4a.out.more _).cell (j := 0) rfl
  have HG0 := hid (show Below wn4.heap.size wn4 wn4.drew from below_drewN (Below.refl _ _) 1)
  have CA : Hid (∀ W, Hid (Below wn4.heap.size wn4 W) → Calls Try.prog 31 #[.agg #[.int .i64 a.kind, .string a.name, .string a.text, .string a.to]] W fun e W' => e = .returned (.agg #[.int .i64 a.kind, .string a.name, .string a.text, .string a.to]) ∧ (W'.cell? ⟨w.heap.size, 0, none⟩ = some (.slice ao l.length cap) ∧ W'.cell? ⟨w.heap.size + 1, 0, none⟩ = some (.int .i64 a.kind) ∧ W'.cell? ⟨w.heap.size + 1, 1, none⟩ = some (.string a.name) ∧ W'.cell? ⟨w.heap.size + 1, 2, none⟩ = some (.string a.text) ∧ W'.cell? ⟨w.heap.size + 1, 3, none⟩ = some (.string a.to) ∧ W'.cell? ⟨B3, 0, none⟩ = some (.slice v3 A.length c3) ∧ W'.cell? ⟨w4.heap.size, 0, none⟩ = some (.slice v4 l.length c4) ∧ (W'.alloc (.cells #[.slice none 0 0] 26)).cell? ⟨w.heap.size, 0, none⟩ = some (.slice ao l.length cap) ∧ (W'.alloc (.cells #[.slice none 0 0] 26)).cell? ⟨w.heap.size + 1, 0, none⟩ = some (.int .i64 a.kind) ∧ (W'.alloc (.cells #[.slice none 0 0] 26)).cell? ⟨w.heap.size + 1, 1, none⟩ = some (.string a.name) ∧ (W'.alloc (.cells #[.slice none 0 0] 26)).cell? ⟨w.heap.size + 1, 2, none⟩ = some (.string a.text) ∧ (W'.alloc (.cells #[.slice none 0 0] 26)).cell? ⟨w.heap.size + 1, 3, none⟩ = some (.string a.to) ∧ (W'.alloc (.cells #[.slice none 0 0] 26)).cell? ⟨B3, 0, none⟩ = some (.slice v3 A.length c3) ∧ (W'.alloc (.cells #[.slice none 0 0] 26)).cell? ⟨w4.heap.size, 0, none⟩ = some (.slice v4 l.length c4)) ∧ Hid (Below W.heap.size W W') ∧ Hid (Below wn4.heap.size wn4 W')) := by
    intro W hW
    refine Calls.mono (toAct_o a W) ?_
    rintro e W' ⟨rfl, hb⟩
    have hb2 := below_via hW.out hb
    exact ⟨rfl, ⟨(X_disk_4a.out.on hb2 X_disk_4a.out.lt).cell (j := 0) rfl, (X_act_4a.out.on hb2 X_act_4a.out.lt).cell (j := 0) rfl, (X_act_4a.out.on hb2 X_act_4a.out.lt).cell (j := 1) rfl, (X_act_4a.out.on hb2 X_act_4a.out.lt).cell (j := 2) rfl, (X_act_4a.out.on hb2 X_act_4a.out.lt).cell (j := 3) rfl, (X_w_4a.out.on hb2 X_w_4a.out.lt).cell (j := 0) rfl, (X_x_4a.out.on hb2 X_x_4a.out.lt).cell (j := 0) rfl, ((X_disk_4a.out.on hb2 X_disk_4a.out.lt).more _).cell (j := 0) rfl, ((X_act_4a.out.on hb2 X_act_4a.out.lt).more _).cell (j := 0) rfl, ((X_act_4a.out.on hb2 X_act_4a.out.lt).more _).cell (j := 1) rfl, ((X_act_4a.out.on hb2 X_act_4a.out.lt).more _).cell (j := 2) rfl, ((X_act_4a.out.on hb2 X_act_4a.out.lt).more _).cell (j := 3) rfl, ((X_w_4a.out.on hb2 X_w_4a.out.lt).more _).cell (j := 0) rfl, ((X_x_4a.out.on hb2 X_x_4a.out.lt).more _).cell (j := 0) rfl⟩, hb, hb2⟩
  have CF : Hid (∀ W, Hid (Below wn4.heap.size wn4 W) → Calls Try.prog 21 #[.agg #[.slice v4 l.length c4], .agg #[.int .i64 a.kind, .string a.name, .string a.text, .string a.to]] W fun e W' => ∃ vb vd, e = .returned (.tuple #[.agg #[.slice vb A.length vd], .bool ok]) ∧ Hid (OwnAt W' 36 (fileCells A) A.length vb wn4.heap.size W'.heap.size) ∧ Hid (Below W.heap.size W W') ∧ Hid (Below wn4.heap.size wn4 W')) := by
    intro W hW
    have CQ := implDoAct_o _ l c4 a hl2 HSM.out ham _ (Y4_4a.out.on hW.out).files
    rw [hF] at CQ
    dsimp only at CQ
    refine Calls.mono CQ ?_
    rintro e W' ⟨vb, vd, rfl, ho, hb⟩
    exact ⟨vb, vd, rfl, ho.down hW.out.size (Nat.le_refl _), hb, below_via hW.out hb⟩
  go_upto_region 10 with fail
  go_cut [9, 10] (fun sa sb wx => ∃ Bx vb vd, sa = .pointer (some ⟨Bx, 0, none⟩) ∧ sb = .bool ok ∧ Hid (BoxRow wn4 wx Bx vb A.length vd (fileCells A)))
  case first =>
    go_region_with (first | (go_at_call 31; refine Calls.mono (CA.out _ (by first | exact HG0 | exact hid (below_via HG0.out (below_more (Below.refl _ _) _)))) ?_; rintro e wa ⟨rfl, ⟨m0, m1, m2, m3, m4, m5, m6, m7, m8, m9, m10, m11, m12, m13⟩, HBA, HGa⟩; (first | (have HXa := hid (box_on0 HBA.out); have cBa := HXa.out.2.cell (j := 0) rfl; have fBa := HXa.out.2.thaw 0) | (have HXa := hid (box_on HG0.out HBA.out); have cBa := HXa.out.2.cell (j := 0) rfl; have fBa := HXa.out.2.thaw 0) | skip)) | (go_at_call 21; refine Calls.mono (CF.out _ (by first | exact HGa | exact hid (below_via HGa.out (below_more (Below.refl _ _) _)))) ?_; rintro e wf ⟨vb, vd, rfl, HZ5, HBF, HGf⟩; (first | (have HXf := hid (box_carry HXa.out HBF.out); have cBf := HXf.out.2.cell (j := 0) rfl; have fBf := HXf.out.2.thaw 0) | (have HXf := hid (box_on0 HBF.out); have cBf := HXf.out.2.cell (j := 0) rfl; have fBf := HXf.out.2.thaw 0) | (have HXf := hid (box_on HGa.out HBF.out); have cBf := HXf.out.2.cell (j := 0) rfl; have fBf := HXf.out.2.thaw 0) | skip)))
    all_goals
      go_wp2_with fail
      go_meet
      first | exact ⟨_, vb, vd, rfl, rfl, boxRow_last HGf.out HZ5.out⟩ | exact ⟨_, vb, vd, rfl, rfl, boxRow_ahead HGf.out HZ5.out HXf.out⟩
  case rest =>
  obtain ⟨wc5, hwc⟩ : ∃ W, W = wc := ⟨_, rfl⟩
  subst hwc
  obtain ⟨B5, v5, c5, rfl, rfl, HC5⟩ := hcut
  have bb := HC5.out.1
  have O5 := hid bb.size
  have O5c := hid HC5.out.2.1.lt
  have X_disk_5 := hid (X_disk_4a.out.on bb X_disk_4a.out.lt)
  have X_act_5 := hid (X_act_4a.out.on bb X_act_4a.out.lt)
  have B_5 := hid (below_via B_4a.out bb)
  have X_w_5 := hid (X_w_4a.out.on bb X_w_4a.out.lt)
  have R_w_5 := hid (R_w_4a.out.on bb)
  have Y4_5 := hid (Y4_4a.out.on bb)
  have X_x_5 := hid (X_x_4a.out.on bb X_x_4a.out.lt)
  have X_g_5 := hid HC5.out.2.1
  have R_g_5 := hid HC5.out.2.2
  clear bb HC5 HG0 CA CF  zb0 zb1 zb2 zb3 zb4 zb5 zb6 hwn X_disk_4a X_act_4a B_4a X_w_4a R_w_4a Y4_4a X_x_4a cX_disk0_4a cX_act0_4a cX_act1_4a cX_act2_4a cX_act3_4a cX_w0_4a cX_x0_4a cX_disk0_4 cX_act0_4 cX_act1_4 cX_act2_4 cX_act3_4 cX_w0_4
  have cX_disk0_5 := X_disk_5.out.cell (j := 0) rfl
  have cX_act0_5 := X_act_5.out.cell (j := 0) rfl
  have cX_act1_5 := X_act_5.out.cell (j := 1) rfl
  have cX_act2_5 := X_act_5.out.cell (j := 2) rfl
  have cX_act3_5 := X_act_5.out.cell (j := 3) rfl
  have cX_w0_5 := X_w_5.out.cell (j := 0) rfl
  have cX_x0_5 := X_x_5.out.cell (j := 0) rfl
  have cX_g0_5 := X_g_5.out.cell (j := 0) rfl
  go_wp2_with fail
  refine (eqDisk_o v5 v3 A c5 c3 hA2 _ (R_g_5.out.files) (R_w_5.out.files)).mono ?_
  rintro e w6 ⟨rfl, b6⟩
  have O6 := hid b6.size
  have X_disk_6 := hid (X_disk_5.out.on b6 X_disk_5.out.lt)
  have X_act_6 := hid (X_act_5.out.on b6 X_act_5.out.lt)
  have B_6 := hid (below_via B_5.out b6)
  have X_w_6 := hid (X_w_5.out.on b6 X_w_5.out.lt)
  have R_w_6 := hid (R_w_5.out.on b6)
  have Y4_6 := hid (Y4_5.out.on b6)
  have X_x_6 := hid (X_x_5.out.on b6 X_x_5.out.lt)
  have X_g_6 := hid (X_g_5.out.on b6 X_g_5.out.lt)
  have R_g_6 := hid (R_g_5.out.on b6)
  clear b6 X_disk_5 X_act_5 B_5 X_w_5 R_w_5 Y4_5 X_x_5 X_g_5 R_g_5 cX_disk0_5 cX_act0_5 cX_act1_5 cX_act2_5 cX_act3_5 cX_w0_5 cX_x0_5 cX_g0_5
  have cX_disk0_6 := X_disk_6.out.cell (j := 0) rfl
  have cX_act0_6 := X_act_6.out.cell (j := 0) rfl
  have cX_act1_6 := X_act_6.out.cell (j := 1) rfl
  have cX_act2_6 := X_act_6.out.cell (j := 2) rfl
  have cX_act3_6 := X_act_6.out.cell (j := 3) rfl
  have cX_w0_6 := X_w_6.out.cell (j := 0) rfl
  have cX_x0_6 := X_x_6.out.cell (j := 0) rfl
  have cX_g0_6 := X_g_6.out.cell (j := 0) rfl
  have CT : Hid (Calls Try.prog 27 #[.agg #[.slice ao l.length cap]] w6.drew fun e w7 => ∃ v7 c7, e = .returned (.agg #[.slice v7 l.length c7]) ∧ w7.cell? ⟨w4.heap.size, 0, none⟩ = some (.slice v4 l.length c4) ∧ Hid (Below w6.heap.size w6 w7 ∧ FilesAt w7 v7 l)) := by
    have hd : Below w6.heap.size w6 w6.drew := below_drewN (Below.refl w6.heap.size w6) 1
    refine Calls.mono (toDisk_o ao l cap hl2 w6.drew (HA.out.on (below_via B_6.out hd))) ?_
    rintro e w7 ⟨v7, c7, rfl, h7, b7⟩
    have h67 := below_via hd b7
    exact ⟨v7, c7, rfl, (X_x_6.out.on h67 X_x_6.out.lt).cell (j := 0) rfl, h67, h7.files⟩
  go_upto_region 13 with fail
  go_cut [56] (fun sa wx => sa = .bool false ∧ Hid (Below w6.heap.size w6 wx))
  case first =>
    go_region_with (first | (go_at_call 27; refine Calls.mono CT.out ?_; rintro e w7 ⟨v7, c7, rfl, y7, H7⟩) | (go_at_call 28; refine (eqDisk_o _ _ l _ _ hl2 _ ((Y4_6.out.on H7.out.1).files) H7.out.2).mono ?_; rintro e w8 ⟨rfl, b8⟩))
    all_goals
      go_wp2_with fail
      go_meet
      exact ⟨rfl, below_via H7.out.1 b8⟩
  case rest =>
  obtain ⟨w8, hwc⟩ : ∃ W, W = wc := ⟨_, rfl⟩
  subst hwc
  obtain ⟨rfl, HCX⟩ := hcut
  have bb := HCX.out
  have O8 := hid bb.size
  have X_disk_8 := hid (X_disk_6.out.on bb X_disk_6.out.lt)
  have X_act_8 := hid (X_act_6.out.on bb X_act_6.out.lt)
  have B_8 := hid (below_via B_6.out bb)
  have X_w_8 := hid (X_w_6.out.on bb X_w_6.out.lt)
  have R_w_8 := hid (R_w_6.out.on bb)
  have Y4_8 := hid (Y4_6.out.on bb)
  have X_x_8 := hid (X_x_6.out.on bb X_x_6.out.lt)
  have X_g_8 := hid (X_g_6.out.on bb X_g_6.out.lt)
  have R_g_8 := hid (R_g_6.out.on bb)
  clear bb HCX CT X_disk_6 X_act_6 B_6 X_w_6 R_w_6 Y4_6 X_x_6 X_g_6 R_g_6 cX_disk0_6 cX_act0_6 cX_act1_6 cX_act2_6 cX_act3_6 cX_w0_6 cX_x0_6 cX_g0_6
  have cX_disk0_8 := X_disk_8.out.cell (j := 0) rfl
  have cX_act0_8 := X_act_8.out.cell (j := 0) rfl
  have cX_act1_8 := X_act_8.out.cell (j := 1) rfl
  have cX_act2_8 := X_act_8.out.cell (j := 2) rfl
  have cX_act3_8 := X_act_8.out.cell (j := 3) rfl
  have cX_w0_8 := X_w_8.out.cell (j := 0) rfl
  have cX_x0_8 := X_x_8.out.cell (j := 0) rfl
  have cX_g0_8 := X_g_8.out.cell (j := 0) rfl
  go_wp2_with fail
  refine (markDisk_o2 (1) v4 c4 l (wc3.heap.size) (w4.heap.size) (by omega) (by omega) _ (by have := O0.out; have := O00.out; have := O1.out; have := O2.out; have := O3.out; have := O3c.out; have := O4.out; have := O4a.out; have := O5.out; have := O5c.out; have := O6.out; have := O8.out; omega) Y4_8.out).mono ?_
  rintro e w9 ⟨rfl, hm9, kp, b9⟩
  have O9 := hid b9.size
  have X_disk_9 := hid (X_disk_8.out.kept2 kp (by decide))
  have X_act_9 := hid (X_act_8.out.kept2 kp (by decide))
  have B_9 := hid (B_8.out.trans (b9.mono (by have := O0.out; have := O00.out; have := O1.out; have := O2.out; have := O3.out; have := O3c.out; have := O4.out; have := O4a.out; have := O5.out; have := O5c.out; have := O6.out; have := O8.out; have := O9.out; omega)))
  have X_w_9 := hid (X_w_8.out.kept2 kp (by decide))
  have R_w_9 := hid (R_w_8.out.kept2 kp (by have := O0.out; have := O00.out; have := O1.out; have := O2.out; have := O3.out; have := O3c.out; have := O4.out; have := O4a.out; have := O5.out; have := O5c.out; have := O6.out; have := O8.out; have := O9.out; omega))
  have X_x_9 := hid (X_x_8.out.kept2 kp (by decide))
  have X_g_9 := hid (X_g_8.out.kept2 kp (by decide))
  have R_g_9 := hid (R_g_8.out.kept2 kp (by have := O0.out; have := O00.out; have := O1.out; have := O2.out; have := O3.out; have := O3c.out; have := O4.out; have := O4a.out; have := O5.out; have := O5c.out; have := O6.out; have := O8.out; have := O9.out; omega))
  clear kp b9 Y4_8 X_disk_8 X_act_8 B_8 X_w_8 R_w_8 X_x_8 X_g_8 R_g_8 cX_disk0_8 cX_act0_8 cX_act1_8 cX_act2_8 cX_act3_8 cX_w0_8 cX_x0_8 cX_g0_8
  have cX_disk0_9 := X_disk_9.out.cell (j := 0) rfl
  have cX_act0_9 := X_act_9.out.cell (j := 0) rfl
  have cX_act1_9 := X_act_9.out.cell (j := 1) rfl
  have cX_act2_9 := X_act_9.out.cell (j := 2) rfl
  have cX_act3_9 := X_act_9.out.cell (j := 3) rfl
  have cX_w0_9 := X_w_9.out.cell (j := 0) rfl
  have cX_x0_9 := X_x_9.out.cell (j := 0) rfl
  have cX_g0_9 := X_g_9.out.cell (j := 0) rfl
  clear hm9
  go_wp2_with fail
  refine (eqDisk_o v5 v3 A c5 c3 hA2 _ (R_g_9.out.files) (R_w_9.out.files)).mono ?_
  rintro e w10 ⟨rfl, b10⟩
  have O10 := hid b10.size
  have X_disk_10 := hid (X_disk_9.out.on b10 X_disk_9.out.lt)
  have X_act_10 := hid (X_act_9.out.on b10 X_act_9.out.lt)
  have B_10 := hid (below_via B_9.out b10)
  have X_w_10 := hid (X_w_9.out.on b10 X_w_9.out.lt)
  have R_w_10 := hid (R_w_9.out.on b10)
  have X_x_10 := hid (X_x_9.out.on b10 X_x_9.out.lt)
  have X_g_10 := hid (X_g_9.out.on b10 X_g_9.out.lt)
  have R_g_10 := hid (R_g_9.out.on b10)
  clear b10 X_disk_9 X_act_9 B_9 X_w_9 R_w_9 X_x_9 X_g_9 R_g_9 cX_disk0_9 cX_act0_9 cX_act1_9 cX_act2_9 cX_act3_9 cX_w0_9 cX_x0_9 cX_g0_9
  have cX_disk0_10 := X_disk_10.out.cell (j := 0) rfl
  have cX_act0_10 := X_act_10.out.cell (j := 0) rfl
  have cX_act1_10 := X_act_10.out.cell (j := 1) rfl
  have cX_act2_10 := X_act_10.out.cell (j := 2) rfl
  have cX_act3_10 := X_act_10.out.cell (j := 3) rfl
  have cX_w0_10 := X_w_10.out.cell (j := 0) rfl
  have cX_x0_10 := X_x_10.out.cell (j := 0) rfl
  have cX_g0_10 := X_g_10.out.cell (j := 0) rfl
  go_wp2_with fail
  refine (markDisk_o2 1 v5 c5 A (wn4.heap.size) (wc5.heap.size) (by omega) (by omega) _ (by have := O0.out; have := O00.out; have := O1.out; have := O2.out; have := O3.out; have := O3c.out; have := O4.out; have := O4a.out; have := O5.out; have := O5c.out; have := O6.out; have := O8.out; have := O9.out; have := O10.out; omega) R_g_10.out).mono ?_
  rintro e w11 ⟨rfl, hm11, kp, b11⟩
  have O11 := hid b11.size
  have X_disk_11 := hid (X_disk_10.out.kept2 kp (by decide))
  have X_act_11 := hid (X_act_10.out.kept2 kp (by decide))
  have B_11 := hid (B_10.out.trans (b11.mono (by have := O0.out; have := O00.out; have := O1.out; have := O2.out; have := O3.out; have := O3c.out; have := O4.out; have := O4a.out; have := O5.out; have := O5c.out; have := O6.out; have := O8.out; have := O9.out; have := O10.out; have := O11.out; omega)))
  have X_w_11 := hid (X_w_10.out.kept2 kp (by decide))
  have R_w_11 := hid (R_w_10.out.kept2 kp (by have := O0.out; have := O00.out; have := O1.out; have := O2.out; have := O3.out; have := O3c.out; have := O4.out; have := O4a.out; have := O5.out; have := O5c.out; have := O6.out; have := O8.out; have := O9.out; have := O10.out; have := O11.out; omega))
  have X_x_11 := hid (X_x_10.out.kept2 kp (by decide))
  have X_g_11 := hid (X_g_10.out.kept2 kp (by decide))
  clear kp b11 R_g_10 X_disk_10 X_act_10 B_10 X_w_10 R_w_10 X_x_10 X_g_10 cX_disk0_10 cX_act0_10 cX_act1_10 cX_act2_10 cX_act3_10 cX_w0_10 cX_x0_10 cX_g0_10
  have cX_disk0_11 := X_disk_11.out.cell (j := 0) rfl
  have cX_act0_11 := X_act_11.out.cell (j := 0) rfl
  have cX_act1_11 := X_act_11.out.cell (j := 1) rfl
  have cX_act2_11 := X_act_11.out.cell (j := 2) rfl
  have cX_act3_11 := X_act_11.out.cell (j := 3) rfl
  have cX_w0_11 := X_w_11.out.cell (j := 0) rfl
  have cX_x0_11 := X_x_11.out.cell (j := 0) rfl
  have cX_g0_11 := X_g_11.out.cell (j := 0) rfl
  have M_11 := hid hm11
  clear hm11
  go_wp2_with fail
  refine (heldDisk_any v5 A.length c5 1 (by omega) hA2 _ M_11.out).mono ?_
  rintro e w12 ⟨rfl, b12⟩
  have O12 := hid b12.size
  have X_disk_12 := hid (X_disk_11.out.on b12 X_disk_11.out.lt)
  have X_act_12 := hid (X_act_11.out.on b12 X_act_11.out.lt)
  have B_12 := hid (below_via B_11.out b12)
  have X_w_12 := hid (X_w_11.out.on b12 X_w_11.out.lt)
  have R_w_12 := hid (R_w_11.out.on b12)
  have X_x_12 := hid (X_x_11.out.on b12 X_x_11.out.lt)
  have X_g_12 := hid (X_g_11.out.on b12 X_g_11.out.lt)
  have M_12 := hid (M_11.out.on b12)
  clear b12 X_disk_11 X_act_11 B_11 X_w_11 R_w_11 X_x_11 X_g_11 M_11 cX_disk0_11 cX_act0_11 cX_act1_11 cX_act2_11 cX_act3_11 cX_w0_11 cX_x0_11 cX_g0_11
  have cX_disk0_12 := X_disk_12.out.cell (j := 0) rfl
  have cX_act0_12 := X_act_12.out.cell (j := 0) rfl
  have cX_act1_12 := X_act_12.out.cell (j := 1) rfl
  have cX_act2_12 := X_act_12.out.cell (j := 2) rfl
  have cX_act3_12 := X_act_12.out.cell (j := 3) rfl
  have cX_w0_12 := X_w_12.out.cell (j := 0) rfl
  have cX_x0_12 := X_x_12.out.cell (j := 0) rfl
  have cX_g0_12 := X_g_12.out.cell (j := 0) rfl
  have zb0 : (w12.alloc (.cells #[.slice none 0 0] 26)).cell? ⟨w.heap.size, 0, none⟩ = some (.slice ao l.length cap) := (X_disk_12.out.more _).cell (j := 0) rfl
  have zb1 : (w12.alloc (.cells #[.slice none 0 0] 26)).cell? ⟨w.heap.size + 1, 0, none⟩ = some (.int .i64 a.kind) := (X_act_12.out.more _).cell (j := 0) rfl
  have zb2 : (w12.alloc (.cells #[.slice none 0 0] 26)).cell? ⟨w.heap.size + 1, 1, none⟩ = some (.string a.name) := (X_act_12.out.more _).cell (j := 1) rfl
  have zb3 : (w12.alloc (.cells #[.slice none 0 0] 26)).cell? ⟨w.heap.size + 1, 2, none⟩ = some (.string a.text) := (X_act_12.out.more _).cell (j := 2) rfl
  have zb4 : (w12.alloc (.cells #[.slice none 0 0] 26)).cell? ⟨w.heap.size + 1, 3, none⟩ = some (.string a.to) := (X_act_12.out.more _).cell (j := 3) rfl
  have zb5 : (w12.alloc (.cells #[.slice none 0 0] 26)).cell? ⟨B3, 0, none⟩ = some (.slice v3 A.length c3) := (X_w_12.out.more _).cell (j := 0) rfl
  have zb6 : (w12.alloc (.cells #[.slice none 0 0] 26)).cell? ⟨w4.heap.size, 0, none⟩ = some (.slice v4 l.length c4) := (X_x_12.out.more _).cell (j := 0) rfl
  have zb7 : (w12.alloc (.cells #[.slice none 0 0] 26)).cell? ⟨B5, 0, none⟩ = some (.slice v5 A.length c5) := (X_g_12.out.more _).cell (j := 0) rfl
  have HG0 := hid (show Below w12.heap.size w12 w12.drew from below_drewN (Below.refl _ _) 1)
  have CD : Hid (∀ W, Hid (Below w12.heap.size w12 W) → Calls Try.prog 27 #[.agg #[.slice ao l.length cap]] W fun e W' => ∃ va vc, e = .returned (.agg #[.slice va l.length vc]) ∧ (W'.cell? ⟨w.heap.size, 0, none⟩ = some (.slice ao l.length cap) ∧ W'.cell? ⟨w.heap.size + 1, 0, none⟩ = some (.int .i64 a.kind) ∧ W'.cell? ⟨w.heap.size + 1, 1, none⟩ = some (.string a.name) ∧ W'.cell? ⟨w.heap.size + 1, 2, none⟩ = some (.string a.text) ∧ W'.cell? ⟨w.heap.size + 1, 3, none⟩ = some (.string a.to) ∧ W'.cell? ⟨B3, 0, none⟩ = some (.slice v3 A.length c3) ∧ W'.cell? ⟨w4.heap.size, 0, none⟩ = some (.slice v4 l.length c4) ∧ W'.cell? ⟨B5, 0, none⟩ = some (.slice v5 A.length c5) ∧ (W'.alloc (.cells #[.slice none 0 0] 26)).cell? ⟨w.heap.size, 0, none⟩ = some (.slice ao l.length cap) ∧ (W'.alloc (.cells #[.slice none 0 0] 26)).cell? ⟨w.heap.size + 1, 0, none⟩ = some (.int .i64 a.kind) ∧ (W'.alloc (.cells #[.slice none 0 0] 26)).cell? ⟨w.heap.size + 1, 1, none⟩ = some (.string a.name) ∧ (W'.alloc (.cells #[.slice none 0 0] 26)).cell? ⟨w.heap.size + 1, 2, none⟩ = some (.string a.text) ∧ (W'.alloc (.cells #[.slice none 0 0] 26)).cell? ⟨w.heap.size + 1, 3, none⟩ = some (.string a.to) ∧ (W'.alloc (.cells #[.slice none 0 0] 26)).cell? ⟨B3, 0, none⟩ = some (.slice v3 A.length c3) ∧ (W'.alloc (.cells #[.slice none 0 0] 26)).cell? ⟨w4.heap.size, 0, none⟩ = some (.slice v4 l.length c4) ∧ (W'.alloc (.cells #[.slice none 0 0] 26)).cell? ⟨B5, 0, none⟩ = some (.slice v5 A.length c5)) ∧ Hid (FilesAt W' va l) ∧ Hid (Below W.heap.size W W') ∧ Hid (Below w12.heap.size w12 W')) := by
    intro W hW
    refine Calls.mono (toDisk_o ao l cap hl2 W (HA.out.on (below_via B_12.out hW.out))) ?_
    rintro e W' ⟨va, vc, rfl, ho, hb⟩
    have hb2 := below_via hW.out hb
    exact ⟨va, vc, rfl, ⟨(X_disk_12.out.on hb2 X_disk_12.out.lt).cell (j := 0) rfl, (X_act_12.out.on hb2 X_act_12.out.lt).cell (j := 0) rfl, (X_act_12.out.on hb2 X_act_12.out.lt).cell (j := 1) rfl, (X_act_12.out.on hb2 X_act_12.out.lt).cell (j := 2) rfl, (X_act_12.out.on hb2 X_act_12.out.lt).cell (j := 3) rfl, (X_w_12.out.on hb2 X_w_12.out.lt).cell (j := 0) rfl, (X_x_12.out.on hb2 X_x_12.out.lt).cell (j := 0) rfl, (X_g_12.out.on hb2 X_g_12.out.lt).cell (j := 0) rfl, ((X_disk_12.out.on hb2 X_disk_12.out.lt).more _).cell (j := 0) rfl, ((X_act_12.out.on hb2 X_act_12.out.lt).more _).cell (j := 0) rfl, ((X_act_12.out.on hb2 X_act_12.out.lt).more _).cell (j := 1) rfl, ((X_act_12.out.on hb2 X_act_12.out.lt).more _).cell (j := 2) rfl, ((X_act_12.out.on hb2 X_act_12.out.lt).more _).cell (j := 3) rfl, ((X_w_12.out.on hb2 X_w_12.out.lt).more _).cell (j := 0) rfl, ((X_x_12.out.on hb2 X_x_12.out.lt).more _).cell (j := 0) rfl, ((X_g_12.out.on hb2 X_g_12.out.lt).more _).cell (j := 0) rfl⟩, ho.files, hb, hb2⟩
  have CA : Hid (∀ W, Hid (Below w12.heap.size w12 W) → Calls Try.prog 31 #[.agg #[.int .i64 a.kind, .string a.name, .string a.text, .string a.to]] W fun e W' => e = .returned (.agg #[.int .i64 a.kind, .string a.name, .string a.text, .string a.to]) ∧ (W'.cell? ⟨w.heap.size, 0, none⟩ = some (.slice ao l.length cap) ∧ W'.cell? ⟨w.heap.size + 1, 0, none⟩ = some (.int .i64 a.kind) ∧ W'.cell? ⟨w.heap.size + 1, 1, none⟩ = some (.string a.name) ∧ W'.cell? ⟨w.heap.size + 1, 2, none⟩ = some (.string a.text) ∧ W'.cell? ⟨w.heap.size + 1, 3, none⟩ = some (.string a.to) ∧ W'.cell? ⟨B3, 0, none⟩ = some (.slice v3 A.length c3) ∧ W'.cell? ⟨w4.heap.size, 0, none⟩ = some (.slice v4 l.length c4) ∧ W'.cell? ⟨B5, 0, none⟩ = some (.slice v5 A.length c5) ∧ (W'.alloc (.cells #[.slice none 0 0] 26)).cell? ⟨w.heap.size, 0, none⟩ = some (.slice ao l.length cap) ∧ (W'.alloc (.cells #[.slice none 0 0] 26)).cell? ⟨w.heap.size + 1, 0, none⟩ = some (.int .i64 a.kind) ∧ (W'.alloc (.cells #[.slice none 0 0] 26)).cell? ⟨w.heap.size + 1, 1, none⟩ = some (.string a.name) ∧ (W'.alloc (.cells #[.slice none 0 0] 26)).cell? ⟨w.heap.size + 1, 2, none⟩ = some (.string a.text) ∧ (W'.alloc (.cells #[.slice none 0 0] 26)).cell? ⟨w.heap.size + 1, 3, none⟩ = some (.string a.to) ∧ (W'.alloc (.cells #[.slice none 0 0] 26)).cell? ⟨B3, 0, none⟩ = some (.slice v3 A.length c3) ∧ (W'.alloc (.cells #[.slice none 0 0] 26)).cell? ⟨w4.heap.size, 0, none⟩ = some (.slice v4 l.length c4) ∧ (W'.alloc (.cells #[.slice none 0 0] 26)).cell? ⟨B5, 0, none⟩ = some (.slice v5 A.length c5)) ∧ Hid (Below W.heap.size W W') ∧ Hid (Below w12.heap.size w12 W')) := by
    intro W hW
    refine Calls.mono (toAct_o a W) ?_
    rintro e W' ⟨rfl, hb⟩
    have hb2 := below_via hW.out hb
    exact ⟨rfl, ⟨(X_disk_12.out.on hb2 X_disk_12.out.lt).cell (j := 0) rfl, (X_act_12.out.on hb2 X_act_12.out.lt).cell (j := 0) rfl, (X_act_12.out.on hb2 X_act_12.out.lt).cell (j := 1) rfl, (X_act_12.out.on hb2 X_act_12.out.lt).cell (j := 2) rfl, (X_act_12.out.on hb2 X_act_12.out.lt).cell (j := 3) rfl, (X_w_12.out.on hb2 X_w_12.out.lt).cell (j := 0) rfl, (X_x_12.out.on hb2 X_x_12.out.lt).cell (j := 0) rfl, (X_g_12.out.on hb2 X_g_12.out.lt).cell (j := 0) rfl, ((X_disk_12.out.on hb2 X_disk_12.out.lt).more _).cell (j := 0) rfl, ((X_act_12.out.on hb2 X_act_12.out.lt).more _).cell (j := 0) rfl, ((X_act_12.out.on hb2 X_act_12.out.lt).more _).cell (j := 1) rfl, ((X_act_12.out.on hb2 X_act_12.out.lt).more _).cell (j := 2) rfl, ((X_act_12.out.on hb2 X_act_12.out.lt).more _).cell (j := 3) rfl, ((X_w_12.out.on hb2 X_w_12.out.lt).more _).cell (j := 0) rfl, ((X_x_12.out.on hb2 X_x_12.out.lt).more _).cell (j := 0) rfl, ((X_g_12.out.on hb2 X_g_12.out.lt).more _).cell (j := 0) rfl⟩, hb, hb2⟩
  have CF : Hid (∀ W va vc, Hid (Below w12.heap.size w12 W) → Hid (FilesAt W va l) → Calls Try.prog 21 #[.agg #[.slice va l.length vc], .agg #[.int .i64 a.kind, .string a.name, .string a.text, .string a.to]] W fun e W' => ∃ vb vd, e = .returned (.tuple #[.agg #[.slice vb A.length vd], .bool ok]) ∧ Hid (OwnAt W' 36 (fileCells A) A.length vb w12.heap.size W'.heap.size) ∧ Hid (Below W.heap.size W W') ∧ Hid (Below w12.heap.size w12 W')) := by
    intro W va vc hW hY
    have CQ := implDoAct_o _ l vc a hl2 HSM.out ham _ hY.out
    rw [hF] at CQ
    dsimp only at CQ
    refine Calls.mono CQ ?_
    rintro e W' ⟨vb, vd, rfl, ho, hb⟩
    exact ⟨vb, vd, rfl, ho.down hW.out.size (Nat.le_refl _), hb, below_via hW.out hb⟩
  go_upto_region 27 with fail
  go_cut [14, 15] (fun sa sb wx => ∃ Bx vb vd, sa = .pointer (some ⟨Bx, 0, none⟩) ∧ sb = .bool ok ∧ Hid (BoxRow w12 wx Bx vb A.length vd (fileCells A)))
  case first =>
    go_region_with (first | (go_at_call 27; refine Calls.mono (CD.out _ (by first | exact HG0 | exact hid (below_via HG0.out (below_more (Below.refl _ _) _)))) ?_; rintro e wd ⟨vq, cq, rfl, ⟨m0, m1, m2, m3, m4, m5, m6, m7, m8, m9, m10, m11, m12, m13, m14, m15⟩, HY, HBD, HGd⟩; (first | (have HXd := hid (box_on0 HBD.out); have cBd := HXd.out.2.cell (j := 0) rfl; have fBd := HXd.out.2.thaw 0) | (have HXd := hid (box_on HG0.out HBD.out); have cBd := HXd.out.2.cell (j := 0) rfl; have fBd := HXd.out.2.thaw 0) | skip)) | (go_at_call 31; refine Calls.mono (CA.out _ (by first | exact HGd | exact hid (below_via HGd.out (below_more (Below.refl _ _) _)))) ?_; rintro e wa ⟨rfl, ⟨m0, m1, m2, m3, m4, m5, m6, m7, m8, m9, m10, m11, m12, m13, m14, m15⟩, HBA, HGa⟩; have HFl : Hid (FilesAt wa vq l) := (by first | exact hid (HY.out.on HBA.out) | exact hid (HY.out.on (below_via (below_more (Below.refl _ _) _) HBA.out))); (first | (have HXa := hid (box_carry HXd.out HBA.out); have cBa := HXa.out.2.cell (j := 0) rfl; have fBa := HXa.out.2.thaw 0) | (have HXa := hid (box_on0 HBA.out); have cBa := HXa.out.2.cell (j := 0) rfl; have fBa := HXa.out.2.thaw 0) | (have HXa := hid (box_on HGd.out HBA.out); have cBa := HXa.out.2.cell (j := 0) rfl; have fBa := HXa.out.2.thaw 0) | skip)) | (go_at_call 21; refine Calls.mono (CF.out _ _ _ (by first | exact HGa | exact hid (below_via HGa.out (below_more (Below.refl _ _) _))) (by first | exact HFl | exact hid (HFl.out.on (below_more (Below.refl _ _) _)))) ?_; rintro e wf ⟨vb, vd, rfl, HZ5, HBF, HGf⟩; (first | (have HXf := hid (box_carry HXa.out HBF.out); have cBf := HXf.out.2.cell (j := 0) rfl; have fBf := HXf.out.2.thaw 0) | (have HXf := hid (box_on0 HBF.out); have cBf := HXf.out.2.cell (j := 0) rfl; have fBf := HXf.out.2.thaw 0) | (have HXf := hid (box_on HGa.out HBF.out); have cBf := HXf.out.2.cell (j := 0) rfl; have fBf := HXf.out.2.thaw 0) | skip)))
    all_goals
      go_wp2_with fail
      go_meet
      first | exact ⟨_, vb, vd, rfl, rfl, boxRow_last HGf.out HZ5.out⟩ | exact ⟨_, vb, vd, rfl, rfl, boxRow_ahead HGf.out HZ5.out HXf.out⟩
  case rest =>
  obtain ⟨wc13, hwc⟩ : ∃ W, W = wc := ⟨_, rfl⟩
  subst hwc
  obtain ⟨B13, v13, c13, rfl, rfl, HC13⟩ := hcut
  have bb := HC13.out.1
  have O13 := hid bb.size
  have O13c := hid HC13.out.2.1.lt
  have X_disk_13 := hid (X_disk_12.out.on bb X_disk_12.out.lt)
  have X_act_13 := hid (X_act_12.out.on bb X_act_12.out.lt)
  have B_13 := hid (below_via B_12.out bb)
  have X_w_13 := hid (X_w_12.out.on bb X_w_12.out.lt)
  have R_w_13 := hid (R_w_12.out.on bb)
  have X_x_13 := hid (X_x_12.out.on bb X_x_12.out.lt)
  have X_g_13 := hid (X_g_12.out.on bb X_g_12.out.lt)
  have M_13 := hid (M_12.out.on bb)
  have X_h_13 := hid HC13.out.2.1
  have R_h_13 := hid HC13.out.2.2
  clear bb HC13 HG0 CA CF CD zb0 zb1 zb2 zb3 zb4 zb5 zb6 zb7  X_disk_12 X_act_12 B_12 X_w_12 R_w_12 X_x_12 X_g_12 M_12 cX_disk0_12 cX_act0_12 cX_act1_12 cX_act2_12 cX_act3_12 cX_w0_12 cX_x0_12 cX_g0_12
  have cX_disk0_13 := X_disk_13.out.cell (j := 0) rfl
  have cX_act0_13 := X_act_13.out.cell (j := 0) rfl
  have cX_act1_13 := X_act_13.out.cell (j := 1) rfl
  have cX_act2_13 := X_act_13.out.cell (j := 2) rfl
  have cX_act3_13 := X_act_13.out.cell (j := 3) rfl
  have cX_w0_13 := X_w_13.out.cell (j := 0) rfl
  have cX_x0_13 := X_x_13.out.cell (j := 0) rfl
  have cX_g0_13 := X_g_13.out.cell (j := 0) rfl
  have cX_h0_13 := X_h_13.out.cell (j := 0) rfl
  go_wp2_with fail
  refine (eqDisk_o v13 v3 A c13 c3 hA2 _ (R_h_13.out.files) (R_w_13.out.files)).mono ?_
  rintro e w14 ⟨rfl, b14⟩
  have O14 := hid b14.size
  have X_disk_14 := hid (X_disk_13.out.on b14 X_disk_13.out.lt)
  have X_act_14 := hid (X_act_13.out.on b14 X_act_13.out.lt)
  have B_14 := hid (below_via B_13.out b14)
  have X_w_14 := hid (X_w_13.out.on b14 X_w_13.out.lt)
  have R_w_14 := hid (R_w_13.out.on b14)
  have X_x_14 := hid (X_x_13.out.on b14 X_x_13.out.lt)
  have X_g_14 := hid (X_g_13.out.on b14 X_g_13.out.lt)
  have M_14 := hid (M_13.out.on b14)
  have X_h_14 := hid (X_h_13.out.on b14 X_h_13.out.lt)
  have R_h_14 := hid (R_h_13.out.on b14)
  clear b14 X_disk_13 X_act_13 B_13 X_w_13 R_w_13 X_x_13 X_g_13 M_13 X_h_13 R_h_13 cX_disk0_13 cX_act0_13 cX_act1_13 cX_act2_13 cX_act3_13 cX_w0_13 cX_x0_13 cX_g0_13 cX_h0_13
  have cX_disk0_14 := X_disk_14.out.cell (j := 0) rfl
  have cX_act0_14 := X_act_14.out.cell (j := 0) rfl
  have cX_act1_14 := X_act_14.out.cell (j := 1) rfl
  have cX_act2_14 := X_act_14.out.cell (j := 2) rfl
  have cX_act3_14 := X_act_14.out.cell (j := 3) rfl
  have cX_w0_14 := X_w_14.out.cell (j := 0) rfl
  have cX_x0_14 := X_x_14.out.cell (j := 0) rfl
  have cX_g0_14 := X_g_14.out.cell (j := 0) rfl
  have cX_h0_14 := X_h_14.out.cell (j := 0) rfl
  go_wp2_with fail
  refine (heldDisk_any v5 A.length c5 1 (by omega) hA2 _ M_14.out).mono ?_
  rintro e w15 ⟨rfl, b15⟩
  have O15 := hid b15.size
  have X_disk_15 := hid (X_disk_14.out.on b15 X_disk_14.out.lt)
  have X_act_15 := hid (X_act_14.out.on b15 X_act_14.out.lt)
  have B_15 := hid (below_via B_14.out b15)
  have X_w_15 := hid (X_w_14.out.on b15 X_w_14.out.lt)
  have R_w_15 := hid (R_w_14.out.on b15)
  have X_x_15 := hid (X_x_14.out.on b15 X_x_14.out.lt)
  have X_g_15 := hid (X_g_14.out.on b15 X_g_14.out.lt)
  have M_15 := hid (M_14.out.on b15)
  have X_h_15 := hid (X_h_14.out.on b15 X_h_14.out.lt)
  have R_h_15 := hid (R_h_14.out.on b15)
  clear b15 X_disk_14 X_act_14 B_14 X_w_14 R_w_14 X_x_14 X_g_14 M_14 X_h_14 R_h_14 cX_disk0_14 cX_act0_14 cX_act1_14 cX_act2_14 cX_act3_14 cX_w0_14 cX_x0_14 cX_g0_14 cX_h0_14
  have cX_disk0_15 := X_disk_15.out.cell (j := 0) rfl
  have cX_act0_15 := X_act_15.out.cell (j := 0) rfl
  have cX_act1_15 := X_act_15.out.cell (j := 1) rfl
  have cX_act2_15 := X_act_15.out.cell (j := 2) rfl
  have cX_act3_15 := X_act_15.out.cell (j := 3) rfl
  have cX_w0_15 := X_w_15.out.cell (j := 0) rfl
  have cX_x0_15 := X_x_15.out.cell (j := 0) rfl
  have cX_g0_15 := X_g_15.out.cell (j := 0) rfl
  have cX_h0_15 := X_h_15.out.cell (j := 0) rfl
  go_wp2
  go_ret
  exact ⟨rfl, B_15.out⟩

theorem own : ownKnob Try.prog.godebug = none := by kernel_rfl
theorem laidOut : laidOutB Try.prog = true := by kernel_rfl
theorem rowed : varsRowed Try.prog Rows.fnExactDoActSpec.vars = true := by kernel_rfl
set_option maxRecDepth 1000000 in
theorem contract (H : Type) (enc : TypeId × Value → H) (W : World) (base : Nat) (args : Array Value) (ds gs : List (DataW H)) (before : List MemPlace)
    (hval : ∀ (j : Nat) t v, Try.f6.params[j]? = some t → args[j]? = some v → Value.okWide Try.prog W .any base t v)
    (hW : DataW.Whole enc Try.prog Try.f6.params.toList Rows.fnExactDoActSpec.vars false W args.toList ds gs before) (_hL : laidMetH Try.prog Rows.fnExactDoActRow.laid W) :
    Calls Try.prog 6 args W fun e W' => ∃ v, e = .returned v ∧ Rows.fnExactDoActSpec.post enc Try.prog Try.f6 false true false false W args v W' := by
  have hW' := hW
  obtain ⟨p, q, hA0, hV0, rfl, hfz, hnd⟩ := hW
  have hV : DataW.TrodVars enc Try.prog W (fun _ => true) Rows.fnExactDoActSpec.vars gs q := hV0
  have hA : DataW.TrodAll enc Try.prog W 0 (fun _ => true) true Try.f6.params.toList args.toList ds p := hA0
  rw [Try.params6] at hA hval
  obtain ⟨v0, vs0, d0, ds0, p0, q0, hargs0, rfl, rfl, h0, r0⟩ := trodAll_cons hA
  obtain ⟨v1, vs1, d1, ds1, p1, q1, hargs1, rfl, rfl, h1, r1⟩ := trodAll_cons r0
  subst hargs1
  obtain ⟨rfl, rfl, rfl⟩ := trodAll_nil r1
  obtain rfl : args = #[v0, v1] := by cases args; simp_all
  have k0 := h0
  have lt0 : ∀ x ∈ p0, x.block < W.heap.size := by obtain ⟨m, hm⟩ := k0; exact DataW.trod_lt m _ _ _ hm
  obtain ⟨a0, l0, cap0, rfl, hc0, hm0, hat0, hfit0, hkept0⟩ := open_disk (hval 0 51 v0 rfl rfl) h0
  have k1 := h1
  have lt1 : ∀ x ∈ p1, x.block < W.heap.size := by obtain ⟨m, hm⟩ := k1; exact DataW.trod_lt m _ _ _ hm
  obtain ⟨a1, rfl, hf1, hk1⟩ := open_act (hval 1 55 v1 rfl rfl) h1
  clear hA0 hV0
  obtain ⟨rfl, rfl⟩ := trodVars_none hV
  refine (walk a0 l0 cap0 (Nat.le_trans hc0 hm0) hfit0 hkept0 a1 hf1 hk1 W hat0).mono fun e W' ⟨he, bel⟩ => ?_
  subst he
  exact ⟨_, rfl, _, _, _, [], _, [], hW', trodAll_mk1 (shut_bool Try.underlying4 _), trodAll_cons_mk (Below.trod laidOut (by kernel_rfl) (of_decide_eq_true (by kernel_rfl)) k0 bel lt0) (trodAll_cons_mk (Below.trod laidOut (by kernel_rfl) (of_decide_eq_true (by kernel_rfl)) k1 bel lt1) (trodAll_mk0)), rfl, bel.frame _, fun h => by cases h⟩

def put (cs : Array Value) : Obj → Obj
  | .cells _ t frozen => .cells cs t frozen
  | o => o

/-- a world for the witness: the tables hold what their initialisers lay -/
def laidWorld (w : World) : World := { w with heap := w.heap }
theorem laid_met (os : Os) : laidMet Try.prog Rows.fnExactDoActRow.laid ((laidWorld (World.holding Try.prog os ⟨#[], #[], []⟩)).forCall (fun _ _ => 0) ⟨#[], #[.agg #[.slice none 0 0], .agg #[.int .i64 0, .string ByteArray.empty, .string ByteArray.empty, .string ByteArray.empty]], []⟩).memory :=
  laidMet_of_run' 8 (by kernel_rfl) (by kernel_rfl)
theorem reads (os : Os) {H : Type} (enc : TypeId × Value → H) : ∃ places, DataW.whole enc Try.prog ((laidWorld (World.holding Try.prog os ⟨#[], #[], []⟩)).forCall (fun _ _ => 0) ⟨#[], #[.agg #[.slice none 0 0], .agg #[.int .i64 0, .string ByteArray.empty, .string ByteArray.empty, .string ByteArray.empty]], []⟩).memory Try.f6.params.toList Rows.fnExactDoActSpec.vars false #[Value.agg #[.slice none 0 0], .agg #[.int .i64 0, .string ByteArray.empty, .string ByteArray.empty, .string ByteArray.empty]].toList 8 = some ([.agg [.nil], .agg [.lit (.int .i64 0), .lit (.string []), .lit (.string []), .lit (.string [])]], [], places) :=
  ⟨[], by kernel_rfl⟩

set_option maxRecDepth 1000000 in
theorem lifted (os : Os) (started : os.Started) (H : Type) (enc : TypeId × Value → H) (F : Stop.Interp) :
    ReturnsInHanded {} Try.checked os 6 .any ((OpenSpec.ofChange Rows.fnExactDoActSpec).preRow enc Try.prog Try.f6 Rows.fnExactDoActRow.domain false Rows.fnExactDoActRow.laid) (((OpenSpec.ofChange Rows.fnExactDoActSpec).at F).post enc Try.prog Try.f6 false true false false) := by
  obtain ⟨places, hx⟩ := reads os enc
  refine returnsInHanded_of_row (C := Try.checked) (s := OpenSpec.ofChange Rows.fnExactDoActSpec) own started (by kernel_rfl) Try.func6
    (witness_row_at (enc := enc) (C := Try.checked) false (laidWorld (World.holding Try.prog os ⟨#[], #[], []⟩)) #[.agg #[.slice none 0 0], .agg #[.int .i64 0, .string ByteArray.empty, .string ByteArray.empty, .string ByteArray.empty]] rfl (by kernel_rfl) (by kernel_rfl) (by kernel_rfl)
      (OpenSpec.preRow_of_cond 8 hx (by kernel_rfl) (fun k hk => by cases hk) (by kernel_rfl) (laid_met os))) ?_
  intro W base args ds gs before hval hW _ _ _ hL _ _
  exact contract H enc W base args ds gs before hval hW hL

theorem said : Rows.FnExactDoActSaid :=
  OpenClaim.holds_of_cond 6 Try.f6 rfl rfl rfl rfl rfl rfl rfl ⟨rfl, rfl, rfl, rfl, rfl⟩ rfl rfl rfl rfl rfl (by kernel_rfl) Try.func6 (by kernel_rfl)
    (of_decide_eq_true (by kernel_rfl)) (by unfold Func.isWrapper; first | (rw [if_pos (by decide +kernel)]; kernel_rfl) | (rw [if_neg (by decide +kernel)]; exact ⟨rfl, rfl⟩))
    (fun os started H enc _ F => by rw [OpenClaim.pre_eq_preRow]; exact lifted os started H enc F)

end Go.Proofs.Ythkfgiilbkjojaa.fnExactDoAct
