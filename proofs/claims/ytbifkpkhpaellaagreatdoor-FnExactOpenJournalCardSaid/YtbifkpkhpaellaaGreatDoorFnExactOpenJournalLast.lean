/-
  For every disk, laws.FnExactOpenJournal returns true: impl.OpenJournal and spec.OpenJournal answer alike, and the answer owns its memory; nothing that was in memory is written. The tables that impl reads and the handle that errors.As reads are tied to the program's text (the card).
-/
import Derived.Test.YtbifkpkhpaellaaGreatDoorCards
import Derived.Test.YtbifkpkhpaellaaGreatDoorTie
import Derived.Test.YtbifkpkhpaellaaGreatDoorJoint3
import Derived.Test.YtbifkpkhpaellaaGreatDoorJoint7
import Derived.Test.YtbifkpkhpaellaaGreatDoorJoint36
import Derived.Test.YtbifkpkhpaellaaGreatDoorJoint43
import Derived.Test.YtbifkpkhpaellaaGreatDoorJoint64
import Derived.Test.YtbifkpkhpaellaaGreatDoorJoint28
import Derived.Deep.DeepCutAuto
import Derived.Deep.RegionWith
import Derived.WalkSmall
import Derived.WalkKit
import Derived.ProofKit
import Derived.OpenShut
import Derived.OpenVars
import Derived.Deep.DeepHandedRow
import Derived.Lib.LaidTab
import Derived.Stop.LaidErr
namespace Go.Proofs.YtbifkpkhpaellaaGreatDoor.fnExactOpenJournal
open Go.ChangeShapes Go.WideShapes Go.ChangeAt Go.ChangeMaps Go.RowKit

set_option maxRecDepth 1000000 in
set_option maxHeartbeats 16000000 in
theorem walk (ao : Option Addr) (l : List FileD) (cap : Nat) (hl : l.length ≤ maxLen) (hf : FilesFit l) (_hk : KeptFit l) (w : World) (ha : FilesAt w ao l) (ht : Steps w) (htab : Lib.TabIs Tryz.prog w "internal/strconv.uint64pow10" .u64 Lib.pow10Tab) (he : w.cell? ⟨0, 0, none⟩ = some (rt hE)) :
    Calls Tryz.prog 3 #[.agg #[.slice ao l.length cap]] w fun e w' => e = .returned (.bool true) ∧ Below w.heap.size w w' := by
  have HA := hid ha
  have HT := hid ht
  have HTB := hid htab
  have HE := hid he
  have XD0 := hid (show BlockIs (w.alloc (.cells #[.slice ao l.length cap] 24)) w.heap.size 24 [.slice ao l.length cap] from heap_alloc_new w _)
  have B0 := hid (below_more (Below.refl w.heap.size w) (.cells #[.slice ao l.length cap] 24))
  have O0 := hid XD0.out.lt
  clear ha ht htab he
  go_enter Tryz.func3, Tryz.ntmps3
  go_wp2_with fail
  refine (szDisk_any ao l cap 1048576 (by omega) (by omega) hl hf _ (HA.out.on B0.out)).mono ?_
  rintro e w1 ⟨hor, b1⟩
  have O1 := hid b1.size
  have B_1 := hid (below_via B0.out b1)
  have XD_1 := hid (XD0.out.on b1 XD0.out.lt)
  clear b1 B0 XD0
  have cXD0_1 := XD_1.out.cell (j := 0) rfl
  rcases hor with ⟨hneg, rfl⟩ | ⟨hnn, rfl⟩
  · go_wp2
    go_ret
    exact ⟨rfl, B_1.out⟩
  have hl2 := (filesSmall hnn).1
  have HSM := hid (fun f (h : f ∈ l) => ((filesSmall hnn).2 f h).2)
  have HSN := hid (fun f (h : f ∈ l) => ((filesSmall hnn).2 f h).1)
  clear hf hl
  obtain ⟨lf, hlf⟩ : ∃ q, (1048576 : Int) - l.length - fileBulk l = q := ⟨_, rfl⟩
  rw [hlf] at hnn ⊢
  clear hlf
  have hz4 := openJ_few l
  have CS' := fun va vc w ha => Calls.mono (specOpenJ_any va l vc hl2 HSN.out HSM.out w ha) (fun _ _ h => openDid_parts h)
  have CI' := fun va vc w ha ht htab he => Calls.mono (implOpenJ_any va l vc hl2 HSN.out HSM.out w ha ht htab he) (fun _ _ h => openDid_parts h)
  obtain ⟨J, hJ⟩ : ∃ x, ojJ (openJ l) = x := ⟨_, rfl⟩
  obtain ⟨A, hA⟩ : ∃ x, ojA (openJ l) = x := ⟨_, rfl⟩
  obtain ⟨ok, hok⟩ : ∃ x, (openJ l).isSome = x := ⟨_, rfl⟩
  simp only [hJ, hA, hok] at CS' CI' hz4
  have CS := hid CS'
  have CI := hid CI'
  clear CS' CI' hJ hA hok
  obtain ⟨jn, jtm, jvt, js, jt, E⟩ := J
  dsimp only at CS CI hz4
  obtain ⟨hz5, hz6⟩ := hz4
  go_wp2_with fail
  refine (toDisk_o ao l cap hl2 _ (HA.out.on B_1.out)).mono ?_
  rintro e w2 ⟨v2, c2, rfl, h2, b2⟩
  have O2 := hid b2.size
  have Y2 := hid h2
  clear h2
  have B_2 := hid (below_via B_1.out b2)
  have XD_2 := hid (XD_1.out.on b2 XD_1.out.lt)
  clear b2 B_1 XD_1 cXD0_1
  have cXD0_2 := XD_2.out.cell (j := 0) rfl
  go_wp2_with fail
  refine (CS.out v2 c2 _ Y2.out.files).mono ?_
  rintro e w3 ⟨v3, c3, u3, d3, rfl, h3, i3, b3⟩
  have O3 := hid b3.size
  have Rw := hid h3
  have Sw := hid i3
  clear h3 i3
  have B_3 := hid (below_via B_2.out b3)
  have XD_3 := hid (XD_2.out.on b3 XD_2.out.lt)
  have Y2_3 := hid (Y2.out.on b3)
  clear b3 B_2 XD_2 Y2 cXD0_2
  have cXD0_3 := XD_3.out.cell (j := 0) rfl
  clear Y2_3
  have ba := below_more (Below.refl w3.heap.size w3) (.cells #[.int .i64 jn, .int .i64 jtm, .int .i64 jvt, .int .i64 js, .int .i64 jt, .slice v3 E.length c3] 30)
  have hx : BlockIs (w3.alloc (.cells #[.int .i64 jn, .int .i64 jtm, .int .i64 jvt, .int .i64 js, .int .i64 jt, .slice v3 E.length c3] 30)) w3.heap.size 30 [.int .i64 jn, .int .i64 jtm, .int .i64 jvt, .int .i64 js, .int .i64 jt, .slice v3 E.length c3] := heap_alloc_new w3 _
  have B_3a := hid (below_via B_3.out ba)
  have XD_3a := hid (XD_3.out.on ba XD_3.out.lt)
  have Rw_3a := hid (Rw.out.on ba)
  have Sw_3a := hid (Sw.out.on ba)
  have Xw_3a := hid hx
  have O3a := hid hx.lt
  clear ba hx B_3 XD_3 Rw Sw cXD0_3
  have cXD0_3a := XD_3a.out.cell (j := 0) rfl
  have cXw0_3a := Xw_3a.out.cell (j := 0) rfl
  have cXw1_3a := Xw_3a.out.cell (j := 1) rfl
  have cXw2_3a := Xw_3a.out.cell (j := 2) rfl
  have cXw3_3a := Xw_3a.out.cell (j := 3) rfl
  have cXw4_3a := Xw_3a.out.cell (j := 4) rfl
  have cXw5_3a := Xw_3a.out.cell (j := 5) rfl
  go_wp2_with fail
  refine (toDisk_o ao l cap hl2 _ (HA.out.on B_3a.out)).mono ?_
  rintro e w4 ⟨v4, c4, rfl, h4, b4⟩
  have O4 := hid b4.size
  have Y4 := hid h4
  clear h4
  have B_4 := hid (below_via B_3a.out b4)
  have XD_4 := hid (XD_3a.out.on b4 XD_3a.out.lt)
  have Rw_4 := hid (Rw_3a.out.on b4)
  have Sw_4 := hid (Sw_3a.out.on b4)
  have Xw_4 := hid (Xw_3a.out.on b4 Xw_3a.out.lt)
  clear b4 B_3a XD_3a Rw_3a Sw_3a Xw_3a cXD0_3a cXw0_3a cXw1_3a cXw2_3a cXw3_3a cXw4_3a cXw5_3a
  have cXD0_4 := XD_4.out.cell (j := 0) rfl
  have cXw0_4 := Xw_4.out.cell (j := 0) rfl
  have cXw1_4 := Xw_4.out.cell (j := 1) rfl
  have cXw2_4 := Xw_4.out.cell (j := 2) rfl
  have cXw3_4 := Xw_4.out.cell (j := 3) rfl
  have cXw4_4 := Xw_4.out.cell (j := 4) rfl
  have cXw5_4 := Xw_4.out.cell (j := 5) rfl
  have ba := below_more (Below.refl w4.heap.size w4) (.cells #[.slice v4 l.length c4] 36)
  have hx : BlockIs (w4.alloc (.cells #[.slice v4 l.length c4] 36)) w4.heap.size 36 [.slice v4 l.length c4] := heap_alloc_new w4 _
  have B_4a := hid (below_via B_4.out ba)
  have XD_4a := hid (XD_4.out.on ba XD_4.out.lt)
  have Rw_4a := hid (Rw_4.out.on ba)
  have Sw_4a := hid (Sw_4.out.on ba)
  have Xw_4a := hid (Xw_4.out.on ba Xw_4.out.lt)
  have Y4_4a := hid (Y4.out.on ba)
  have Xx_4a := hid hx
  have O4a := hid hx.lt
  clear ba hx B_4 XD_4 Rw_4 Sw_4 Xw_4 Y4 cXD0_4 cXw0_4 cXw1_4 cXw2_4 cXw3_4 cXw4_4 cXw5_4
  have cXD0_4a := XD_4a.out.cell (j := 0) rfl
  have cXw0_4a := Xw_4a.out.cell (j := 0) rfl
  have cXw1_4a := Xw_4a.out.cell (j := 1) rfl
  have cXw2_4a := Xw_4a.out.cell (j := 2) rfl
  have cXw3_4a := Xw_4a.out.cell (j := 3) rfl
  have cXw4_4a := Xw_4a.out.cell (j := 4) rfl
  have cXw5_4a := Xw_4a.out.cell (j := 5) rfl
  have cXx0_4a := Xx_4a.out.cell (j := 0) rfl
  go_wp2_with fail
  refine (CI.out v4 c4 _ Y4_4a.out.files (steps_on HT.out B_4a.out) (table_on HTB.out B_4a.out) ((B_4a.out.cell (p := ⟨0, 0, none⟩) (World.block_lt_of_cell? w _ HE.out)).trans HE.out)).mono ?_
  rintro e w5 ⟨v5, c5, u5, d5, rfl, h5, i5, b5⟩
  have O5 := hid b5.size
  have Rg := hid h5
  have Sg := hid i5
  clear h5 i5
  have B_5 := hid (below_via B_4a.out b5)
  have XD_5 := hid (XD_4a.out.on b5 XD_4a.out.lt)
  have Rw_5 := hid (Rw_4a.out.on b5)
  have Sw_5 := hid (Sw_4a.out.on b5)
  have Xw_5 := hid (Xw_4a.out.on b5 Xw_4a.out.lt)
  have Y4_5 := hid (Y4_4a.out.on b5)
  have Xx_5 := hid (Xx_4a.out.on b5 Xx_4a.out.lt)
  clear b5 B_4a XD_4a Rw_4a Sw_4a Xw_4a Y4_4a Xx_4a cXD0_4a cXw0_4a cXw1_4a cXw2_4a cXw3_4a cXw4_4a cXw5_4a cXx0_4a
  have cXD0_5 := XD_5.out.cell (j := 0) rfl
  have cXw0_5 := Xw_5.out.cell (j := 0) rfl
  have cXw1_5 := Xw_5.out.cell (j := 1) rfl
  have cXw2_5 := Xw_5.out.cell (j := 2) rfl
  have cXw3_5 := Xw_5.out.cell (j := 3) rfl
  have cXw4_5 := Xw_5.out.cell (j := 4) rfl
  have cXw5_5 := Xw_5.out.cell (j := 5) rfl
  have cXx0_5 := Xx_5.out.cell (j := 0) rfl
  have ba := below_more (Below.refl w5.heap.size w5) (.cells #[.int .i64 jn, .int .i64 jtm, .int .i64 jvt, .int .i64 js, .int .i64 jt, .slice v5 E.length c5] 30)
  have hx : BlockIs (w5.alloc (.cells #[.int .i64 jn, .int .i64 jtm, .int .i64 jvt, .int .i64 js, .int .i64 jt, .slice v5 E.length c5] 30)) w5.heap.size 30 [.int .i64 jn, .int .i64 jtm, .int .i64 jvt, .int .i64 js, .int .i64 jt, .slice v5 E.length c5] := heap_alloc_new w5 _
  have B_5a := hid (below_via B_5.out ba)
  have XD_5a := hid (XD_5.out.on ba XD_5.out.lt)
  have Rw_5a := hid (Rw_5.out.on ba)
  have Sw_5a := hid (Sw_5.out.on ba)
  have Xw_5a := hid (Xw_5.out.on ba Xw_5.out.lt)
  have Y4_5a := hid (Y4_5.out.on ba)
  have Xx_5a := hid (Xx_5.out.on ba Xx_5.out.lt)
  have Rg_5a := hid (Rg.out.on ba)
  have Sg_5a := hid (Sg.out.on ba)
  have Xg_5a := hid hx
  have O5a := hid hx.lt
  clear ba hx B_5 XD_5 Rw_5 Sw_5 Xw_5 Y4_5 Xx_5 Rg Sg cXD0_5 cXw0_5 cXw1_5 cXw2_5 cXw3_5 cXw4_5 cXw5_5 cXx0_5
  have cXD0_5a := XD_5a.out.cell (j := 0) rfl
  have cXw0_5a := Xw_5a.out.cell (j := 0) rfl
  have cXw1_5a := Xw_5a.out.cell (j := 1) rfl
  have cXw2_5a := Xw_5a.out.cell (j := 2) rfl
  have cXw3_5a := Xw_5a.out.cell (j := 3) rfl
  have cXw4_5a := Xw_5a.out.cell (j := 4) rfl
  have cXw5_5a := Xw_5a.out.cell (j := 5) rfl
  have cXx0_5a := Xx_5a.out.cell (j := 0) rfl
  have cXg0_5a := Xg_5a.out.cell (j := 0) rfl
  have cXg1_5a := Xg_5a.out.cell (j := 1) rfl
  have cXg2_5a := Xg_5a.out.cell (j := 2) rfl
  have cXg3_5a := Xg_5a.out.cell (j := 3) rfl
  have cXg4_5a := Xg_5a.out.cell (j := 4) rfl
  have cXg5_5a := Xg_5a.out.cell (j := 5) rfl
  go_wp2_with fail
  refine (eqJour_same jn jtm jvt js jt v5 v3 E c5 c3 (by omega) _ Rg_5a.out.ents Rw_5a.out.ents).mono ?_
  rintro e w6 ⟨rfl, b6⟩
  have O6 := hid b6.size
  have B_6 := hid (below_via B_5a.out b6)
  have XD_6 := hid (XD_5a.out.on b6 XD_5a.out.lt)
  have Rw_6 := hid (Rw_5a.out.on b6)
  have Sw_6 := hid (Sw_5a.out.on b6)
  have Xw_6 := hid (Xw_5a.out.on b6 Xw_5a.out.lt)
  have Y4_6 := hid (Y4_5a.out.on b6)
  have Xx_6 := hid (Xx_5a.out.on b6 Xx_5a.out.lt)
  have Rg_6 := hid (Rg_5a.out.on b6)
  have Sg_6 := hid (Sg_5a.out.on b6)
  have Xg_6 := hid (Xg_5a.out.on b6 Xg_5a.out.lt)
  clear b6 B_5a XD_5a Rw_5a Sw_5a Xw_5a Y4_5a Xx_5a Rg_5a Sg_5a Xg_5a cXD0_5a cXw0_5a cXw1_5a cXw2_5a cXw3_5a cXw4_5a cXw5_5a cXx0_5a cXg0_5a cXg1_5a cXg2_5a cXg3_5a cXg4_5a cXg5_5a
  have cXD0_6 := XD_6.out.cell (j := 0) rfl
  have cXw0_6 := Xw_6.out.cell (j := 0) rfl
  have cXw1_6 := Xw_6.out.cell (j := 1) rfl
  have cXw2_6 := Xw_6.out.cell (j := 2) rfl
  have cXw3_6 := Xw_6.out.cell (j := 3) rfl
  have cXw4_6 := Xw_6.out.cell (j := 4) rfl
  have cXw5_6 := Xw_6.out.cell (j := 5) rfl
  have cXx0_6 := Xx_6.out.cell (j := 0) rfl
  have cXg0_6 := Xg_6.out.cell (j := 0) rfl
  have cXg1_6 := Xg_6.out.cell (j := 1) rfl
  have cXg2_6 := Xg_6.out.cell (j := 2) rfl
  have cXg3_6 := Xg_6.out.cell (j := 3) rfl
  have cXg4_6 := Xg_6.out.cell (j := 4) rfl
  have cXg5_6 := Xg_6.out.cell (j := 5) rfl
  go_wp2_with fail
  refine (eqActS_same u5 u3 A d5 d3 (by omega) _ Sg_6.out.acts Sw_6.out.acts).mono ?_
  rintro e w7 ⟨rfl, b7⟩
  have O7 := hid b7.size
  have B_7 := hid (below_via B_6.out b7)
  have XD_7 := hid (XD_6.out.on b7 XD_6.out.lt)
  have Rw_7 := hid (Rw_6.out.on b7)
  have Sw_7 := hid (Sw_6.out.on b7)
  have Xw_7 := hid (Xw_6.out.on b7 Xw_6.out.lt)
  have Y4_7 := hid (Y4_6.out.on b7)
  have Xx_7 := hid (Xx_6.out.on b7 Xx_6.out.lt)
  have Rg_7 := hid (Rg_6.out.on b7)
  have Sg_7 := hid (Sg_6.out.on b7)
  have Xg_7 := hid (Xg_6.out.on b7 Xg_6.out.lt)
  clear b7 B_6 XD_6 Rw_6 Sw_6 Xw_6 Y4_6 Xx_6 Rg_6 Sg_6 Xg_6 cXD0_6 cXw0_6 cXw1_6 cXw2_6 cXw3_6 cXw4_6 cXw5_6 cXx0_6 cXg0_6 cXg1_6 cXg2_6 cXg3_6 cXg4_6 cXg5_6
  have cXD0_7 := XD_7.out.cell (j := 0) rfl
  have cXw0_7 := Xw_7.out.cell (j := 0) rfl
  have cXw1_7 := Xw_7.out.cell (j := 1) rfl
  have cXw2_7 := Xw_7.out.cell (j := 2) rfl
  have cXw3_7 := Xw_7.out.cell (j := 3) rfl
  have cXw4_7 := Xw_7.out.cell (j := 4) rfl
  have cXw5_7 := Xw_7.out.cell (j := 5) rfl
  have cXx0_7 := Xx_7.out.cell (j := 0) rfl
  have cXg0_7 := Xg_7.out.cell (j := 0) rfl
  have cXg1_7 := Xg_7.out.cell (j := 1) rfl
  have cXg2_7 := Xg_7.out.cell (j := 2) rfl
  have cXg3_7 := Xg_7.out.cell (j := 3) rfl
  have cXg4_7 := Xg_7.out.cell (j := 4) rfl
  have cXg5_7 := Xg_7.out.cell (j := 5) rfl
  have CT : Hid (Calls Tryz.prog 6 #[.agg #[.slice ao l.length cap]] w7.drew fun e w8 => ∃ v8 c8, e = .returned (.agg #[.slice v8 l.length c8]) ∧ w8.cell? ⟨w4.heap.size, 0, none⟩ = some (.slice v4 l.length c4) ∧ Hid (Below w7.heap.size w7 w8 ∧ FilesAt w8 v8 l)) := by
    have hd : Below w7.heap.size w7 w7.drew := below_drewN (Below.refl _ _) 1
    refine Calls.mono (toDisk_o ao l cap hl2 w7.drew (HA.out.on (below_via B_7.out hd))) ?_
    rintro e w8 ⟨v8, c8, rfl, h8, b8⟩
    have h67 := below_via hd b8
    exact ⟨v8, c8, rfl, (Xx_7.out.on h67 Xx_7.out.lt).cell (j := 0) rfl, h67, h8.files⟩
  go_upto_region 10 with fail
  go_cut [56] (fun sa wx => sa = .bool false ∧ Hid (Below w7.heap.size w7 wx))
  case first =>
    go_region_with (first | (go_at_call 6; refine Calls.mono CT.out ?_; rintro e w8 ⟨v8, c8, rfl, y8, H8⟩) | (go_at_call 10; refine (eqDisk_o _ _ l _ _ hl2 _ ((Y4_7.out.on H8.out.1).files) H8.out.2).mono ?_; rintro e w9 ⟨rfl, b9⟩))
    all_goals
      go_wp2_with fail
      go_meet
      exact ⟨rfl, below_via H8.out.1 b9⟩
  case rest =>
  obtain ⟨w9, hwc⟩ : ∃ W, W = wc := ⟨_, rfl⟩
  subst hwc
  obtain ⟨rfl, HCX⟩ := hcut
  have bb := HCX.out
  have O9 := hid bb.size
  have B_9 := hid (below_via B_7.out bb)
  have XD_9 := hid (XD_7.out.on bb XD_7.out.lt)
  have Rw_9 := hid (Rw_7.out.on bb)
  have Sw_9 := hid (Sw_7.out.on bb)
  have Xw_9 := hid (Xw_7.out.on bb Xw_7.out.lt)
  have Y4_9 := hid (Y4_7.out.on bb)
  have Xx_9 := hid (Xx_7.out.on bb Xx_7.out.lt)
  have Rg_9 := hid (Rg_7.out.on bb)
  have Sg_9 := hid (Sg_7.out.on bb)
  have Xg_9 := hid (Xg_7.out.on bb Xg_7.out.lt)
  clear bb HCX CT B_7 XD_7 Rw_7 Sw_7 Xw_7 Y4_7 Xx_7 Rg_7 Sg_7 Xg_7 cXD0_7 cXw0_7 cXw1_7 cXw2_7 cXw3_7 cXw4_7 cXw5_7 cXx0_7 cXg0_7 cXg1_7 cXg2_7 cXg3_7 cXg4_7 cXg5_7
  have cXD0_9 := XD_9.out.cell (j := 0) rfl
  have cXw0_9 := Xw_9.out.cell (j := 0) rfl
  have cXw1_9 := Xw_9.out.cell (j := 1) rfl
  have cXw2_9 := Xw_9.out.cell (j := 2) rfl
  have cXw3_9 := Xw_9.out.cell (j := 3) rfl
  have cXw4_9 := Xw_9.out.cell (j := 4) rfl
  have cXw5_9 := Xw_9.out.cell (j := 5) rfl
  have cXx0_9 := Xx_9.out.cell (j := 0) rfl
  have cXg0_9 := Xg_9.out.cell (j := 0) rfl
  have cXg1_9 := Xg_9.out.cell (j := 1) rfl
  have cXg2_9 := Xg_9.out.cell (j := 2) rfl
  have cXg3_9 := Xg_9.out.cell (j := 3) rfl
  have cXg4_9 := Xg_9.out.cell (j := 4) rfl
  have cXg5_9 := Xg_9.out.cell (j := 5) rfl
  go_wp2_with fail
  refine (markDisk_o 1 v4 c4 l ((w3.alloc (.cells #[.int .i64 jn, .int .i64 jtm, .int .i64 jvt, .int .i64 js, .int .i64 jt, .slice v3 E.length c3] 30)).heap.size) (w4.heap.size) (by omega) (by omega) _ (by have := O0.out; have := O1.out; have := O2.out; have := O3.out; have := O3a.out; have := O4.out; have := O4a.out; have := O5.out; have := O5a.out; have := O6.out; have := O7.out; have := O9.out; omega) Y4_9.out).mono ?_
  rintro e w10 ⟨rfl, hm10, kp, b10⟩
  have O10 := hid b10.size
  have B_10 := hid (B_9.out.trans (b10.mono (by have := O0.out; have := O1.out; have := O2.out; have := O3.out; have := O3a.out; have := O4.out; have := O4a.out; have := O5.out; have := O5a.out; have := O6.out; have := O7.out; have := O9.out; have := O10.out; omega)))
  have XD_10 := hid (XD_9.out.kept kp (by have := O0.out; have := O1.out; have := O2.out; have := O3.out; have := O3a.out; have := O4.out; have := O4a.out; have := O5.out; have := O5a.out; have := O6.out; have := O7.out; have := O9.out; have := O10.out; omega))
  have Rw_10 := hid (Rw_9.out.kept kp (by have := O0.out; have := O1.out; have := O2.out; have := O3.out; have := O3a.out; have := O4.out; have := O4a.out; have := O5.out; have := O5a.out; have := O6.out; have := O7.out; have := O9.out; have := O10.out; omega))
  have Sw_10 := hid (Sw_9.out.kept kp (by have := O0.out; have := O1.out; have := O2.out; have := O3.out; have := O3a.out; have := O4.out; have := O4a.out; have := O5.out; have := O5a.out; have := O6.out; have := O7.out; have := O9.out; have := O10.out; omega))
  have Xw_10 := hid (Xw_9.out.kept kp (by have := O0.out; have := O1.out; have := O2.out; have := O3.out; have := O3a.out; have := O4.out; have := O4a.out; have := O5.out; have := O5a.out; have := O6.out; have := O7.out; have := O9.out; have := O10.out; omega))
  have Xx_10 := hid (Xx_9.out.kept kp (by have := O0.out; have := O1.out; have := O2.out; have := O3.out; have := O3a.out; have := O4.out; have := O4a.out; have := O5.out; have := O5a.out; have := O6.out; have := O7.out; have := O9.out; have := O10.out; omega))
  have Rg_10 := hid (Rg_9.out.kept kp (by have := O0.out; have := O1.out; have := O2.out; have := O3.out; have := O3a.out; have := O4.out; have := O4a.out; have := O5.out; have := O5a.out; have := O6.out; have := O7.out; have := O9.out; have := O10.out; omega))
  have Sg_10 := hid (Sg_9.out.kept kp (by have := O0.out; have := O1.out; have := O2.out; have := O3.out; have := O3a.out; have := O4.out; have := O4a.out; have := O5.out; have := O5a.out; have := O6.out; have := O7.out; have := O9.out; have := O10.out; omega))
  have Xg_10 := hid (Xg_9.out.kept kp (by have := O0.out; have := O1.out; have := O2.out; have := O3.out; have := O3a.out; have := O4.out; have := O4a.out; have := O5.out; have := O5a.out; have := O6.out; have := O7.out; have := O9.out; have := O10.out; omega))
  have M10 := hid hm10
  clear kp b10 hm10 Y4_9 B_9 XD_9 Rw_9 Sw_9 Xw_9 Xx_9 Rg_9 Sg_9 Xg_9 cXD0_9 cXw0_9 cXw1_9 cXw2_9 cXw3_9 cXw4_9 cXw5_9 cXx0_9 cXg0_9 cXg1_9 cXg2_9 cXg3_9 cXg4_9 cXg5_9
  obtain ⟨N10, hN10⟩ : ∃ N, 1 + 3 * l.length = N := ⟨_, rfl⟩
  have hNb10 : N10 ≤ 10000000 := by omega
  rw [hN10]
  have cXD0_10 := XD_10.out.cell (j := 0) rfl
  have cXw0_10 := Xw_10.out.cell (j := 0) rfl
  have cXw1_10 := Xw_10.out.cell (j := 1) rfl
  have cXw2_10 := Xw_10.out.cell (j := 2) rfl
  have cXw3_10 := Xw_10.out.cell (j := 3) rfl
  have cXw4_10 := Xw_10.out.cell (j := 4) rfl
  have cXw5_10 := Xw_10.out.cell (j := 5) rfl
  have cXx0_10 := Xx_10.out.cell (j := 0) rfl
  have cXg0_10 := Xg_10.out.cell (j := 0) rfl
  have cXg1_10 := Xg_10.out.cell (j := 1) rfl
  have cXg2_10 := Xg_10.out.cell (j := 2) rfl
  have cXg3_10 := Xg_10.out.cell (j := 3) rfl
  have cXg4_10 := Xg_10.out.cell (j := 4) rfl
  have cXg5_10 := Xg_10.out.cell (j := 5) rfl
  clear M10 hN10
  go_wp2_with fail
  refine (eqJour_same jn jtm jvt js jt v5 v3 E c5 c3 (by omega) _ Rg_10.out.ents Rw_10.out.ents).mono ?_
  rintro e w11 ⟨rfl, b11⟩
  have O11 := hid b11.size
  have B_11 := hid (below_via B_10.out b11)
  have XD_11 := hid (XD_10.out.on b11 XD_10.out.lt)
  have Rw_11 := hid (Rw_10.out.on b11)
  have Sw_11 := hid (Sw_10.out.on b11)
  have Xw_11 := hid (Xw_10.out.on b11 Xw_10.out.lt)
  have Xx_11 := hid (Xx_10.out.on b11 Xx_10.out.lt)
  have Rg_11 := hid (Rg_10.out.on b11)
  have Sg_11 := hid (Sg_10.out.on b11)
  have Xg_11 := hid (Xg_10.out.on b11 Xg_10.out.lt)
  clear b11 B_10 XD_10 Rw_10 Sw_10 Xw_10 Xx_10 Rg_10 Sg_10 Xg_10 cXD0_10 cXw0_10 cXw1_10 cXw2_10 cXw3_10 cXw4_10 cXw5_10 cXx0_10 cXg0_10 cXg1_10 cXg2_10 cXg3_10 cXg4_10 cXg5_10
  have cXD0_11 := XD_11.out.cell (j := 0) rfl
  have cXw0_11 := Xw_11.out.cell (j := 0) rfl
  have cXw1_11 := Xw_11.out.cell (j := 1) rfl
  have cXw2_11 := Xw_11.out.cell (j := 2) rfl
  have cXw3_11 := Xw_11.out.cell (j := 3) rfl
  have cXw4_11 := Xw_11.out.cell (j := 4) rfl
  have cXw5_11 := Xw_11.out.cell (j := 5) rfl
  have cXx0_11 := Xx_11.out.cell (j := 0) rfl
  have cXg0_11 := Xg_11.out.cell (j := 0) rfl
  have cXg1_11 := Xg_11.out.cell (j := 1) rfl
  have cXg2_11 := Xg_11.out.cell (j := 2) rfl
  have cXg3_11 := Xg_11.out.cell (j := 3) rfl
  have cXg4_11 := Xg_11.out.cell (j := 4) rfl
  have cXg5_11 := Xg_11.out.cell (j := 5) rfl
  go_wp2_with fail
  refine (eqActS_same u5 u3 A d5 d3 (by omega) _ Sg_11.out.acts Sw_11.out.acts).mono ?_
  rintro e w12 ⟨rfl, b12⟩
  have O12 := hid b12.size
  have B_12 := hid (below_via B_11.out b12)
  have XD_12 := hid (XD_11.out.on b12 XD_11.out.lt)
  have Rw_12 := hid (Rw_11.out.on b12)
  have Sw_12 := hid (Sw_11.out.on b12)
  have Xw_12 := hid (Xw_11.out.on b12 Xw_11.out.lt)
  have Xx_12 := hid (Xx_11.out.on b12 Xx_11.out.lt)
  have Rg_12 := hid (Rg_11.out.on b12)
  have Sg_12 := hid (Sg_11.out.on b12)
  have Xg_12 := hid (Xg_11.out.on b12 Xg_11.out.lt)
  clear b12 B_11 XD_11 Rw_11 Sw_11 Xw_11 Xx_11 Rg_11 Sg_11 Xg_11 cXD0_11 cXw0_11 cXw1_11 cXw2_11 cXw3_11 cXw4_11 cXw5_11 cXx0_11 cXg0_11 cXg1_11 cXg2_11 cXg3_11 cXg4_11 cXg5_11
  have cXD0_12 := XD_12.out.cell (j := 0) rfl
  have cXw0_12 := Xw_12.out.cell (j := 0) rfl
  have cXw1_12 := Xw_12.out.cell (j := 1) rfl
  have cXw2_12 := Xw_12.out.cell (j := 2) rfl
  have cXw3_12 := Xw_12.out.cell (j := 3) rfl
  have cXw4_12 := Xw_12.out.cell (j := 4) rfl
  have cXw5_12 := Xw_12.out.cell (j := 5) rfl
  have cXx0_12 := Xx_12.out.cell (j := 0) rfl
  have cXg0_12 := Xg_12.out.cell (j := 0) rfl
  have cXg1_12 := Xg_12.out.cell (j := 1) rfl
  have cXg2_12 := Xg_12.out.cell (j := 2) rfl
  have cXg3_12 := Xg_12.out.cell (j := 3) rfl
  have cXg4_12 := Xg_12.out.cell (j := 4) rfl
  have cXg5_12 := Xg_12.out.cell (j := 5) rfl
  go_wp2_with fail
  refine (markJour_own jn jtm jvt js jt 1 v5 c5 E ((w4.alloc (.cells #[.slice v4 l.length c4] 36)).heap.size) (w5.heap.size) (by omega) (by omega) _ (by have := O0.out; have := O1.out; have := O2.out; have := O3.out; have := O3a.out; have := O4.out; have := O4a.out; have := O5.out; have := O5a.out; have := O6.out; have := O7.out; have := O9.out; have := O10.out; have := O11.out; have := O12.out; omega) (by have := O0.out; have := O1.out; have := O2.out; have := O3.out; have := O3a.out; have := O4.out; have := O4a.out; have := O5.out; have := O5a.out; have := O6.out; have := O7.out; have := O9.out; have := O10.out; have := O11.out; have := O12.out; omega) Rg_12.out).mono ?_
  rintro e w13 ⟨rfl, hm13, kp, b13⟩
  have O13 := hid b13.size
  have B_13 := hid (B_12.out.trans (b13.mono (by have := O0.out; have := O1.out; have := O2.out; have := O3.out; have := O3a.out; have := O4.out; have := O4a.out; have := O5.out; have := O5a.out; have := O6.out; have := O7.out; have := O9.out; have := O10.out; have := O11.out; have := O12.out; have := O13.out; omega)))
  have XD_13 := hid (XD_12.out.keptT kp (by decide))
  have Rw_13 := hid (Rw_12.out.keptT kp (by first | exact Or.inr (Or.inr (by decide)) | (have := O0.out; have := O1.out; have := O2.out; have := O3.out; have := O3a.out; have := O4.out; have := O4a.out; have := O5.out; have := O5a.out; have := O6.out; have := O7.out; have := O9.out; have := O10.out; have := O11.out; have := O12.out; have := O13.out; omega)))
  have Sw_13 := hid (Sw_12.out.keptT kp (by first | exact Or.inr (Or.inr (by decide)) | (have := O0.out; have := O1.out; have := O2.out; have := O3.out; have := O3a.out; have := O4.out; have := O4a.out; have := O5.out; have := O5a.out; have := O6.out; have := O7.out; have := O9.out; have := O10.out; have := O11.out; have := O12.out; have := O13.out; omega)))
  have Xw_13 := hid (Xw_12.out.keptT kp (by decide))
  have Xx_13 := hid (Xx_12.out.keptT kp (by decide))
  have Sg_13 := hid (Sg_12.out.keptT kp (by first | exact Or.inr (Or.inr (by decide)) | (have := O0.out; have := O1.out; have := O2.out; have := O3.out; have := O3a.out; have := O4.out; have := O4a.out; have := O5.out; have := O5a.out; have := O6.out; have := O7.out; have := O9.out; have := O10.out; have := O11.out; have := O12.out; have := O13.out; omega)))
  have Xg_13 := hid (Xg_12.out.keptT kp (by decide))
  have M13 := hid hm13
  clear kp b13 hm13 Rg_12 B_12 XD_12 Rw_12 Sw_12 Xw_12 Xx_12 Sg_12 Xg_12 cXD0_12 cXw0_12 cXw1_12 cXw2_12 cXw3_12 cXw4_12 cXw5_12 cXx0_12 cXg0_12 cXg1_12 cXg2_12 cXg3_12 cXg4_12 cXg5_12
  obtain ⟨N13, hN13⟩ : ∃ N, 1 + 3 * E.length = N := ⟨_, rfl⟩
  have hNb13 : N13 ≤ 1000 := by omega
  rw [hN13]
  have cXD0_13 := XD_13.out.cell (j := 0) rfl
  have cXw0_13 := Xw_13.out.cell (j := 0) rfl
  have cXw1_13 := Xw_13.out.cell (j := 1) rfl
  have cXw2_13 := Xw_13.out.cell (j := 2) rfl
  have cXw3_13 := Xw_13.out.cell (j := 3) rfl
  have cXw4_13 := Xw_13.out.cell (j := 4) rfl
  have cXw5_13 := Xw_13.out.cell (j := 5) rfl
  have cXx0_13 := Xx_13.out.cell (j := 0) rfl
  have cXg0_13 := Xg_13.out.cell (j := 0) rfl
  have cXg1_13 := Xg_13.out.cell (j := 1) rfl
  have cXg2_13 := Xg_13.out.cell (j := 2) rfl
  have cXg3_13 := Xg_13.out.cell (j := 3) rfl
  have cXg4_13 := Xg_13.out.cell (j := 4) rfl
  have cXg5_13 := Xg_13.out.cell (j := 5) rfl
  have CHJ' := fun w h => heldJour_any jn jtm jvt js jt v5 E.length c5 1 (by omega) (by omega) w h
  rw [hN13] at CHJ'
  have CHJ := hid CHJ'
  clear CHJ' hN13
  go_wp2_with fail
  refine (markActS_ty u5 d5 A ((w4.alloc (.cells #[.slice v4 l.length c4] 36)).heap.size) (w5.heap.size) N13 (by omega) (by omega) _ (by have := O0.out; have := O1.out; have := O2.out; have := O3.out; have := O3a.out; have := O4.out; have := O4a.out; have := O5.out; have := O5a.out; have := O6.out; have := O7.out; have := O9.out; have := O10.out; have := O11.out; have := O12.out; have := O13.out; omega) Sg_13.out).mono ?_
  rintro e w14 ⟨rfl, hm14, kp, b14⟩
  have O14 := hid b14.size
  have B_14 := hid (B_13.out.trans (b14.mono (by have := O0.out; have := O1.out; have := O2.out; have := O3.out; have := O3a.out; have := O4.out; have := O4a.out; have := O5.out; have := O5a.out; have := O6.out; have := O7.out; have := O9.out; have := O10.out; have := O11.out; have := O12.out; have := O13.out; have := O14.out; omega)))
  have XD_14 := hid (XD_13.out.keptT kp (by decide))
  have Rw_14 := hid (Rw_13.out.keptT kp (by first | exact Or.inr (Or.inr (by decide)) | (have := O0.out; have := O1.out; have := O2.out; have := O3.out; have := O3a.out; have := O4.out; have := O4a.out; have := O5.out; have := O5a.out; have := O6.out; have := O7.out; have := O9.out; have := O10.out; have := O11.out; have := O12.out; have := O13.out; have := O14.out; omega)))
  have Sw_14 := hid (Sw_13.out.keptT kp (by first | exact Or.inr (Or.inr (by decide)) | (have := O0.out; have := O1.out; have := O2.out; have := O3.out; have := O3a.out; have := O4.out; have := O4a.out; have := O5.out; have := O5a.out; have := O6.out; have := O7.out; have := O9.out; have := O10.out; have := O11.out; have := O12.out; have := O13.out; have := O14.out; omega)))
  have Xw_14 := hid (Xw_13.out.keptT kp (by decide))
  have Xx_14 := hid (Xx_13.out.keptT kp (by decide))
  have Xg_14 := hid (Xg_13.out.keptT kp (by decide))
  have MJ_14 := hid (M13.out.keptT kp (by first | exact Or.inr (Or.inr (by decide)) | (have := O0.out; have := O1.out; have := O2.out; have := O3.out; have := O3a.out; have := O4.out; have := O4a.out; have := O5.out; have := O5a.out; have := O6.out; have := O7.out; have := O9.out; have := O10.out; have := O11.out; have := O12.out; have := O13.out; have := O14.out; omega)))
  have M14 := hid hm14
  clear kp b14 hm14 Sg_13 B_13 XD_13 Rw_13 Sw_13 Xw_13 Xx_13 Xg_13 M13 cXD0_13 cXw0_13 cXw1_13 cXw2_13 cXw3_13 cXw4_13 cXw5_13 cXx0_13 cXg0_13 cXg1_13 cXg2_13 cXg3_13 cXg4_13 cXg5_13
  obtain ⟨N14, hN14⟩ : ∃ N, N13 + 4 * A.length = N := ⟨_, rfl⟩
  have hNb14 : N14 ≤ 10000 := by omega
  rw [hN14]
  have cXD0_14 := XD_14.out.cell (j := 0) rfl
  have cXw0_14 := Xw_14.out.cell (j := 0) rfl
  have cXw1_14 := Xw_14.out.cell (j := 1) rfl
  have cXw2_14 := Xw_14.out.cell (j := 2) rfl
  have cXw3_14 := Xw_14.out.cell (j := 3) rfl
  have cXw4_14 := Xw_14.out.cell (j := 4) rfl
  have cXw5_14 := Xw_14.out.cell (j := 5) rfl
  have cXx0_14 := Xx_14.out.cell (j := 0) rfl
  have cXg0_14 := Xg_14.out.cell (j := 0) rfl
  have cXg1_14 := Xg_14.out.cell (j := 1) rfl
  have cXg2_14 := Xg_14.out.cell (j := 2) rfl
  have cXg3_14 := Xg_14.out.cell (j := 3) rfl
  have cXg4_14 := Xg_14.out.cell (j := 4) rfl
  have cXg5_14 := Xg_14.out.cell (j := 5) rfl
  have CHA' := fun w h => heldActS_any u5 A.length d5 N13 (by omega) (by omega) w h
  rw [hN14] at CHA'
  have CHA := hid CHA'
  clear CHA' hN14
  go_wp2_with fail
  refine (CHJ.out _ MJ_14.out.marked).mono ?_
  rintro e w15 ⟨rfl, b15⟩
  have O15 := hid b15.size
  have B_15 := hid (below_via B_14.out b15)
  have XD_15 := hid (XD_14.out.on b15 XD_14.out.lt)
  have Rw_15 := hid (Rw_14.out.on b15)
  have Sw_15 := hid (Sw_14.out.on b15)
  have Xw_15 := hid (Xw_14.out.on b15 Xw_14.out.lt)
  have Xx_15 := hid (Xx_14.out.on b15 Xx_14.out.lt)
  have Xg_15 := hid (Xg_14.out.on b15 Xg_14.out.lt)
  have MJ_15 := hid (MJ_14.out.on b15)
  have MA_15 := hid (M14.out.on b15)
  clear b15 B_14 XD_14 Rw_14 Sw_14 Xw_14 Xx_14 Xg_14 MJ_14 M14 cXD0_14 cXw0_14 cXw1_14 cXw2_14 cXw3_14 cXw4_14 cXw5_14 cXx0_14 cXg0_14 cXg1_14 cXg2_14 cXg3_14 cXg4_14 cXg5_14
  have cXD0_15 := XD_15.out.cell (j := 0) rfl
  have cXw0_15 := Xw_15.out.cell (j := 0) rfl
  have cXw1_15 := Xw_15.out.cell (j := 1) rfl
  have cXw2_15 := Xw_15.out.cell (j := 2) rfl
  have cXw3_15 := Xw_15.out.cell (j := 3) rfl
  have cXw4_15 := Xw_15.out.cell (j := 4) rfl
  have cXw5_15 := Xw_15.out.cell (j := 5) rfl
  have cXx0_15 := Xx_15.out.cell (j := 0) rfl
  have cXg0_15 := Xg_15.out.cell (j := 0) rfl
  have cXg1_15 := Xg_15.out.cell (j := 1) rfl
  have cXg2_15 := Xg_15.out.cell (j := 2) rfl
  have cXg3_15 := Xg_15.out.cell (j := 3) rfl
  have cXg4_15 := Xg_15.out.cell (j := 4) rfl
  have cXg5_15 := Xg_15.out.cell (j := 5) rfl
  go_wp2_with fail
  refine (CHA.out _ MA_15.out).mono ?_
  rintro e w16 ⟨rfl, b16⟩
  have O16 := hid b16.size
  have B_16 := hid (below_via B_15.out b16)
  have XD_16 := hid (XD_15.out.on b16 XD_15.out.lt)
  have Rw_16 := hid (Rw_15.out.on b16)
  have Sw_16 := hid (Sw_15.out.on b16)
  have Xw_16 := hid (Xw_15.out.on b16 Xw_15.out.lt)
  have Xx_16 := hid (Xx_15.out.on b16 Xx_15.out.lt)
  have Xg_16 := hid (Xg_15.out.on b16 Xg_15.out.lt)
  have MJ_16 := hid (MJ_15.out.on b16)
  have MA_16 := hid (MA_15.out.on b16)
  clear b16 B_15 XD_15 Rw_15 Sw_15 Xw_15 Xx_15 Xg_15 MJ_15 MA_15 cXD0_15 cXw0_15 cXw1_15 cXw2_15 cXw3_15 cXw4_15 cXw5_15 cXx0_15 cXg0_15 cXg1_15 cXg2_15 cXg3_15 cXg4_15 cXg5_15
  have cXD0_16 := XD_16.out.cell (j := 0) rfl
  have cXw0_16 := Xw_16.out.cell (j := 0) rfl
  have cXw1_16 := Xw_16.out.cell (j := 1) rfl
  have cXw2_16 := Xw_16.out.cell (j := 2) rfl
  have cXw3_16 := Xw_16.out.cell (j := 3) rfl
  have cXw4_16 := Xw_16.out.cell (j := 4) rfl
  have cXw5_16 := Xw_16.out.cell (j := 5) rfl
  have cXx0_16 := Xx_16.out.cell (j := 0) rfl
  have cXg0_16 := Xg_16.out.cell (j := 0) rfl
  have cXg1_16 := Xg_16.out.cell (j := 1) rfl
  have cXg2_16 := Xg_16.out.cell (j := 2) rfl
  have cXg3_16 := Xg_16.out.cell (j := 3) rfl
  have cXg4_16 := Xg_16.out.cell (j := 4) rfl
  have cXg5_16 := Xg_16.out.cell (j := 5) rfl
  go_wp2_with fail
  refine (toDisk_o ao l cap hl2 _ (HA.out.on B_16.out)).mono ?_
  rintro e w17 ⟨v17, c17, rfl, h17, b17⟩
  have O17 := hid b17.size
  have Y17 := hid h17
  clear h17
  have B_17 := hid (below_via B_16.out b17)
  have XD_17 := hid (XD_16.out.on b17 XD_16.out.lt)
  have Rw_17 := hid (Rw_16.out.on b17)
  have Sw_17 := hid (Sw_16.out.on b17)
  have Xw_17 := hid (Xw_16.out.on b17 Xw_16.out.lt)
  have Xx_17 := hid (Xx_16.out.on b17 Xx_16.out.lt)
  have Xg_17 := hid (Xg_16.out.on b17 Xg_16.out.lt)
  have MJ_17 := hid (MJ_16.out.on b17)
  have MA_17 := hid (MA_16.out.on b17)
  clear b17 B_16 XD_16 Rw_16 Sw_16 Xw_16 Xx_16 Xg_16 MJ_16 MA_16 cXD0_16 cXw0_16 cXw1_16 cXw2_16 cXw3_16 cXw4_16 cXw5_16 cXx0_16 cXg0_16 cXg1_16 cXg2_16 cXg3_16 cXg4_16 cXg5_16
  have cXD0_17 := XD_17.out.cell (j := 0) rfl
  have cXw0_17 := Xw_17.out.cell (j := 0) rfl
  have cXw1_17 := Xw_17.out.cell (j := 1) rfl
  have cXw2_17 := Xw_17.out.cell (j := 2) rfl
  have cXw3_17 := Xw_17.out.cell (j := 3) rfl
  have cXw4_17 := Xw_17.out.cell (j := 4) rfl
  have cXw5_17 := Xw_17.out.cell (j := 5) rfl
  have cXx0_17 := Xx_17.out.cell (j := 0) rfl
  have cXg0_17 := Xg_17.out.cell (j := 0) rfl
  have cXg1_17 := Xg_17.out.cell (j := 1) rfl
  have cXg2_17 := Xg_17.out.cell (j := 2) rfl
  have cXg3_17 := Xg_17.out.cell (j := 3) rfl
  have cXg4_17 := Xg_17.out.cell (j := 4) rfl
  have cXg5_17 := Xg_17.out.cell (j := 5) rfl
  go_wp2_with fail
  refine (CI.out v17 c17 _ Y17.out.files (steps_on HT.out B_17.out) (table_on HTB.out B_17.out) ((B_17.out.cell (p := ⟨0, 0, none⟩) (World.block_lt_of_cell? w _ HE.out)).trans HE.out)).mono ?_
  rintro e w18 ⟨v18, c18, u18, d18, rfl, h18, i18, b18⟩
  have O18 := hid b18.size
  have Rh := hid h18
  have Sh := hid i18
  clear h18 i18
  have B_18 := hid (below_via B_17.out b18)
  have XD_18 := hid (XD_17.out.on b18 XD_17.out.lt)
  have Rw_18 := hid (Rw_17.out.on b18)
  have Sw_18 := hid (Sw_17.out.on b18)
  have Xw_18 := hid (Xw_17.out.on b18 Xw_17.out.lt)
  have Xx_18 := hid (Xx_17.out.on b18 Xx_17.out.lt)
  have Xg_18 := hid (Xg_17.out.on b18 Xg_17.out.lt)
  have MJ_18 := hid (MJ_17.out.on b18)
  have MA_18 := hid (MA_17.out.on b18)
  have Y17_18 := hid (Y17.out.on b18)
  clear b18 B_17 XD_17 Rw_17 Sw_17 Xw_17 Xx_17 Xg_17 MJ_17 MA_17 Y17 cXD0_17 cXw0_17 cXw1_17 cXw2_17 cXw3_17 cXw4_17 cXw5_17 cXx0_17 cXg0_17 cXg1_17 cXg2_17 cXg3_17 cXg4_17 cXg5_17
  have cXD0_18 := XD_18.out.cell (j := 0) rfl
  have cXw0_18 := Xw_18.out.cell (j := 0) rfl
  have cXw1_18 := Xw_18.out.cell (j := 1) rfl
  have cXw2_18 := Xw_18.out.cell (j := 2) rfl
  have cXw3_18 := Xw_18.out.cell (j := 3) rfl
  have cXw4_18 := Xw_18.out.cell (j := 4) rfl
  have cXw5_18 := Xw_18.out.cell (j := 5) rfl
  have cXx0_18 := Xx_18.out.cell (j := 0) rfl
  have cXg0_18 := Xg_18.out.cell (j := 0) rfl
  have cXg1_18 := Xg_18.out.cell (j := 1) rfl
  have cXg2_18 := Xg_18.out.cell (j := 2) rfl
  have cXg3_18 := Xg_18.out.cell (j := 3) rfl
  have cXg4_18 := Xg_18.out.cell (j := 4) rfl
  have cXg5_18 := Xg_18.out.cell (j := 5) rfl
  clear Y17_18
  have ba := below_more (Below.refl w18.heap.size w18) (.cells #[.int .i64 jn, .int .i64 jtm, .int .i64 jvt, .int .i64 js, .int .i64 jt, .slice v18 E.length c18] 30)
  have hx : BlockIs (w18.alloc (.cells #[.int .i64 jn, .int .i64 jtm, .int .i64 jvt, .int .i64 js, .int .i64 jt, .slice v18 E.length c18] 30)) w18.heap.size 30 [.int .i64 jn, .int .i64 jtm, .int .i64 jvt, .int .i64 js, .int .i64 jt, .slice v18 E.length c18] := heap_alloc_new w18 _
  have B_18a := hid (below_via B_18.out ba)
  have XD_18a := hid (XD_18.out.on ba XD_18.out.lt)
  have Rw_18a := hid (Rw_18.out.on ba)
  have Sw_18a := hid (Sw_18.out.on ba)
  have Xw_18a := hid (Xw_18.out.on ba Xw_18.out.lt)
  have Xx_18a := hid (Xx_18.out.on ba Xx_18.out.lt)
  have Xg_18a := hid (Xg_18.out.on ba Xg_18.out.lt)
  have MJ_18a := hid (MJ_18.out.on ba)
  have MA_18a := hid (MA_18.out.on ba)
  have Rh_18a := hid (Rh.out.on ba)
  have Sh_18a := hid (Sh.out.on ba)
  have Xh_18a := hid hx
  have O18a := hid hx.lt
  clear ba hx B_18 XD_18 Rw_18 Sw_18 Xw_18 Xx_18 Xg_18 MJ_18 MA_18 Rh Sh cXD0_18 cXw0_18 cXw1_18 cXw2_18 cXw3_18 cXw4_18 cXw5_18 cXx0_18 cXg0_18 cXg1_18 cXg2_18 cXg3_18 cXg4_18 cXg5_18
  have cXD0_18a := XD_18a.out.cell (j := 0) rfl
  have cXw0_18a := Xw_18a.out.cell (j := 0) rfl
  have cXw1_18a := Xw_18a.out.cell (j := 1) rfl
  have cXw2_18a := Xw_18a.out.cell (j := 2) rfl
  have cXw3_18a := Xw_18a.out.cell (j := 3) rfl
  have cXw4_18a := Xw_18a.out.cell (j := 4) rfl
  have cXw5_18a := Xw_18a.out.cell (j := 5) rfl
  have cXx0_18a := Xx_18a.out.cell (j := 0) rfl
  have cXg0_18a := Xg_18a.out.cell (j := 0) rfl
  have cXg1_18a := Xg_18a.out.cell (j := 1) rfl
  have cXg2_18a := Xg_18a.out.cell (j := 2) rfl
  have cXg3_18a := Xg_18a.out.cell (j := 3) rfl
  have cXg4_18a := Xg_18a.out.cell (j := 4) rfl
  have cXg5_18a := Xg_18a.out.cell (j := 5) rfl
  have cXh0_18a := Xh_18a.out.cell (j := 0) rfl
  have cXh1_18a := Xh_18a.out.cell (j := 1) rfl
  have cXh2_18a := Xh_18a.out.cell (j := 2) rfl
  have cXh3_18a := Xh_18a.out.cell (j := 3) rfl
  have cXh4_18a := Xh_18a.out.cell (j := 4) rfl
  have cXh5_18a := Xh_18a.out.cell (j := 5) rfl
  go_wp2_with fail
  refine (eqJour_same jn jtm jvt js jt v18 v3 E c18 c3 (by omega) _ Rh_18a.out.ents Rw_18a.out.ents).mono ?_
  rintro e w19 ⟨rfl, b19⟩
  have O19 := hid b19.size
  have B_19 := hid (below_via B_18a.out b19)
  have XD_19 := hid (XD_18a.out.on b19 XD_18a.out.lt)
  have Rw_19 := hid (Rw_18a.out.on b19)
  have Sw_19 := hid (Sw_18a.out.on b19)
  have Xw_19 := hid (Xw_18a.out.on b19 Xw_18a.out.lt)
  have Xx_19 := hid (Xx_18a.out.on b19 Xx_18a.out.lt)
  have Xg_19 := hid (Xg_18a.out.on b19 Xg_18a.out.lt)
  have MJ_19 := hid (MJ_18a.out.on b19)
  have MA_19 := hid (MA_18a.out.on b19)
  have Rh_19 := hid (Rh_18a.out.on b19)
  have Sh_19 := hid (Sh_18a.out.on b19)
  have Xh_19 := hid (Xh_18a.out.on b19 Xh_18a.out.lt)
  clear b19 B_18a XD_18a Rw_18a Sw_18a Xw_18a Xx_18a Xg_18a MJ_18a MA_18a Rh_18a Sh_18a Xh_18a cXD0_18a cXw0_18a cXw1_18a cXw2_18a cXw3_18a cXw4_18a cXw5_18a cXx0_18a cXg0_18a cXg1_18a cXg2_18a cXg3_18a cXg4_18a cXg5_18a cXh0_18a cXh1_18a cXh2_18a cXh3_18a cXh4_18a cXh5_18a
  have cXD0_19 := XD_19.out.cell (j := 0) rfl
  have cXw0_19 := Xw_19.out.cell (j := 0) rfl
  have cXw1_19 := Xw_19.out.cell (j := 1) rfl
  have cXw2_19 := Xw_19.out.cell (j := 2) rfl
  have cXw3_19 := Xw_19.out.cell (j := 3) rfl
  have cXw4_19 := Xw_19.out.cell (j := 4) rfl
  have cXw5_19 := Xw_19.out.cell (j := 5) rfl
  have cXx0_19 := Xx_19.out.cell (j := 0) rfl
  have cXg0_19 := Xg_19.out.cell (j := 0) rfl
  have cXg1_19 := Xg_19.out.cell (j := 1) rfl
  have cXg2_19 := Xg_19.out.cell (j := 2) rfl
  have cXg3_19 := Xg_19.out.cell (j := 3) rfl
  have cXg4_19 := Xg_19.out.cell (j := 4) rfl
  have cXg5_19 := Xg_19.out.cell (j := 5) rfl
  have cXh0_19 := Xh_19.out.cell (j := 0) rfl
  have cXh1_19 := Xh_19.out.cell (j := 1) rfl
  have cXh2_19 := Xh_19.out.cell (j := 2) rfl
  have cXh3_19 := Xh_19.out.cell (j := 3) rfl
  have cXh4_19 := Xh_19.out.cell (j := 4) rfl
  have cXh5_19 := Xh_19.out.cell (j := 5) rfl
  go_wp2_with fail
  refine (eqActS_same u18 u3 A d18 d3 (by omega) _ Sh_19.out.acts Sw_19.out.acts).mono ?_
  rintro e w20 ⟨rfl, b20⟩
  have O20 := hid b20.size
  have B_20 := hid (below_via B_19.out b20)
  have XD_20 := hid (XD_19.out.on b20 XD_19.out.lt)
  have Rw_20 := hid (Rw_19.out.on b20)
  have Sw_20 := hid (Sw_19.out.on b20)
  have Xw_20 := hid (Xw_19.out.on b20 Xw_19.out.lt)
  have Xx_20 := hid (Xx_19.out.on b20 Xx_19.out.lt)
  have Xg_20 := hid (Xg_19.out.on b20 Xg_19.out.lt)
  have MJ_20 := hid (MJ_19.out.on b20)
  have MA_20 := hid (MA_19.out.on b20)
  have Rh_20 := hid (Rh_19.out.on b20)
  have Sh_20 := hid (Sh_19.out.on b20)
  have Xh_20 := hid (Xh_19.out.on b20 Xh_19.out.lt)
  clear b20 B_19 XD_19 Rw_19 Sw_19 Xw_19 Xx_19 Xg_19 MJ_19 MA_19 Rh_19 Sh_19 Xh_19 cXD0_19 cXw0_19 cXw1_19 cXw2_19 cXw3_19 cXw4_19 cXw5_19 cXx0_19 cXg0_19 cXg1_19 cXg2_19 cXg3_19 cXg4_19 cXg5_19 cXh0_19 cXh1_19 cXh2_19 cXh3_19 cXh4_19 cXh5_19
  have cXD0_20 := XD_20.out.cell (j := 0) rfl
  have cXw0_20 := Xw_20.out.cell (j := 0) rfl
  have cXw1_20 := Xw_20.out.cell (j := 1) rfl
  have cXw2_20 := Xw_20.out.cell (j := 2) rfl
  have cXw3_20 := Xw_20.out.cell (j := 3) rfl
  have cXw4_20 := Xw_20.out.cell (j := 4) rfl
  have cXw5_20 := Xw_20.out.cell (j := 5) rfl
  have cXx0_20 := Xx_20.out.cell (j := 0) rfl
  have cXg0_20 := Xg_20.out.cell (j := 0) rfl
  have cXg1_20 := Xg_20.out.cell (j := 1) rfl
  have cXg2_20 := Xg_20.out.cell (j := 2) rfl
  have cXg3_20 := Xg_20.out.cell (j := 3) rfl
  have cXg4_20 := Xg_20.out.cell (j := 4) rfl
  have cXg5_20 := Xg_20.out.cell (j := 5) rfl
  have cXh0_20 := Xh_20.out.cell (j := 0) rfl
  have cXh1_20 := Xh_20.out.cell (j := 1) rfl
  have cXh2_20 := Xh_20.out.cell (j := 2) rfl
  have cXh3_20 := Xh_20.out.cell (j := 3) rfl
  have cXh4_20 := Xh_20.out.cell (j := 4) rfl
  have cXh5_20 := Xh_20.out.cell (j := 5) rfl
  go_wp2_with fail
  refine (CHJ.out _ MJ_20.out.marked).mono ?_
  rintro e w21 ⟨rfl, b21⟩
  have O21 := hid b21.size
  have B_21 := hid (below_via B_20.out b21)
  have XD_21 := hid (XD_20.out.on b21 XD_20.out.lt)
  have Rw_21 := hid (Rw_20.out.on b21)
  have Sw_21 := hid (Sw_20.out.on b21)
  have Xw_21 := hid (Xw_20.out.on b21 Xw_20.out.lt)
  have Xx_21 := hid (Xx_20.out.on b21 Xx_20.out.lt)
  have Xg_21 := hid (Xg_20.out.on b21 Xg_20.out.lt)
  have MJ_21 := hid (MJ_20.out.on b21)
  have MA_21 := hid (MA_20.out.on b21)
  have Rh_21 := hid (Rh_20.out.on b21)
  have Sh_21 := hid (Sh_20.out.on b21)
  have Xh_21 := hid (Xh_20.out.on b21 Xh_20.out.lt)
  clear b21 B_20 XD_20 Rw_20 Sw_20 Xw_20 Xx_20 Xg_20 MJ_20 MA_20 Rh_20 Sh_20 Xh_20 cXD0_20 cXw0_20 cXw1_20 cXw2_20 cXw3_20 cXw4_20 cXw5_20 cXx0_20 cXg0_20 cXg1_20 cXg2_20 cXg3_20 cXg4_20 cXg5_20 cXh0_20 cXh1_20 cXh2_20 cXh3_20 cXh4_20 cXh5_20
  have cXD0_21 := XD_21.out.cell (j := 0) rfl
  have cXw0_21 := Xw_21.out.cell (j := 0) rfl
  have cXw1_21 := Xw_21.out.cell (j := 1) rfl
  have cXw2_21 := Xw_21.out.cell (j := 2) rfl
  have cXw3_21 := Xw_21.out.cell (j := 3) rfl
  have cXw4_21 := Xw_21.out.cell (j := 4) rfl
  have cXw5_21 := Xw_21.out.cell (j := 5) rfl
  have cXx0_21 := Xx_21.out.cell (j := 0) rfl
  have cXg0_21 := Xg_21.out.cell (j := 0) rfl
  have cXg1_21 := Xg_21.out.cell (j := 1) rfl
  have cXg2_21 := Xg_21.out.cell (j := 2) rfl
  have cXg3_21 := Xg_21.out.cell (j := 3) rfl
  have cXg4_21 := Xg_21.out.cell (j := 4) rfl
  have cXg5_21 := Xg_21.out.cell (j := 5) rfl
  have cXh0_21 := Xh_21.out.cell (j := 0) rfl
  have cXh1_21 := Xh_21.out.cell (j := 1) rfl
  have cXh2_21 := Xh_21.out.cell (j := 2) rfl
  have cXh3_21 := Xh_21.out.cell (j := 3) rfl
  have cXh4_21 := Xh_21.out.cell (j := 4) rfl
  have cXh5_21 := Xh_21.out.cell (j := 5) rfl
  go_wp2_with fail
  refine (CHA.out _ MA_21.out).mono ?_
  rintro e w22 ⟨rfl, b22⟩
  have O22 := hid b22.size
  have B_22 := hid (below_via B_21.out b22)
  have XD_22 := hid (XD_21.out.on b22 XD_21.out.lt)
  have Rw_22 := hid (Rw_21.out.on b22)
  have Sw_22 := hid (Sw_21.out.on b22)
  have Xw_22 := hid (Xw_21.out.on b22 Xw_21.out.lt)
  have Xx_22 := hid (Xx_21.out.on b22 Xx_21.out.lt)
  have Xg_22 := hid (Xg_21.out.on b22 Xg_21.out.lt)
  have MJ_22 := hid (MJ_21.out.on b22)
  have MA_22 := hid (MA_21.out.on b22)
  have Rh_22 := hid (Rh_21.out.on b22)
  have Sh_22 := hid (Sh_21.out.on b22)
  have Xh_22 := hid (Xh_21.out.on b22 Xh_21.out.lt)
  clear b22 B_21 XD_21 Rw_21 Sw_21 Xw_21 Xx_21 Xg_21 MJ_21 MA_21 Rh_21 Sh_21 Xh_21 cXD0_21 cXw0_21 cXw1_21 cXw2_21 cXw3_21 cXw4_21 cXw5_21 cXx0_21 cXg0_21 cXg1_21 cXg2_21 cXg3_21 cXg4_21 cXg5_21 cXh0_21 cXh1_21 cXh2_21 cXh3_21 cXh4_21 cXh5_21
  have cXD0_22 := XD_22.out.cell (j := 0) rfl
  have cXw0_22 := Xw_22.out.cell (j := 0) rfl
  have cXw1_22 := Xw_22.out.cell (j := 1) rfl
  have cXw2_22 := Xw_22.out.cell (j := 2) rfl
  have cXw3_22 := Xw_22.out.cell (j := 3) rfl
  have cXw4_22 := Xw_22.out.cell (j := 4) rfl
  have cXw5_22 := Xw_22.out.cell (j := 5) rfl
  have cXx0_22 := Xx_22.out.cell (j := 0) rfl
  have cXg0_22 := Xg_22.out.cell (j := 0) rfl
  have cXg1_22 := Xg_22.out.cell (j := 1) rfl
  have cXg2_22 := Xg_22.out.cell (j := 2) rfl
  have cXg3_22 := Xg_22.out.cell (j := 3) rfl
  have cXg4_22 := Xg_22.out.cell (j := 4) rfl
  have cXg5_22 := Xg_22.out.cell (j := 5) rfl
  have cXh0_22 := Xh_22.out.cell (j := 0) rfl
  have cXh1_22 := Xh_22.out.cell (j := 1) rfl
  have cXh2_22 := Xh_22.out.cell (j := 2) rfl
  have cXh3_22 := Xh_22.out.cell (j := 3) rfl
  have cXh4_22 := Xh_22.out.cell (j := 4) rfl
  have cXh5_22 := Xh_22.out.cell (j := 5) rfl
  go_wp2
  go_ret
  exact ⟨rfl, B_22.out⟩

theorem own : ownKnob Tryz.prog.godebug = none := by kernel_rfl
theorem laidOut : laidOutB Tryz.prog = true := by kernel_rfl
theorem rowed : varsRowed Tryz.prog Rows.fnExactOpenJournalSpec.vars = true := by kernel_rfl
/-- what the row's list gives: what loop.example/g00232/impl.fourSteps holds -/
theorem table0 {W : World} (h : laidMetH Tryz.prog Rows.fnExactOpenJournalRow.laid W) : Lib.TabIs Tryz.prog W "loop.example/g00232/impl.fourSteps" .u32 stepsTab := by
  have h1 : laidMet Tryz.prog [("math/bits.deBruijn32tab", Rows.laid_math_bits_deBruijn32tab), ("math/bits.deBruijn64tab", Rows.laid_math_bits_deBruijn64tab), ("internal/strconv.uint64pow10", Rows.laid_internal_strconv_uint64pow10), ("loop.example/g00232/impl.fourSteps", Rows.laid_loop_example_g00232_impl_fourSteps)] W := h.1
  skip
  have h2 := h1.tail.tail.tail
  rw [show (Rows.laid_loop_example_g00232_impl_fourSteps : DataW Unit) = Lib.tabData .u32 stepsTab by kernel_rfl] at h2
  exact Lib.tabIs_of_head (show Tryz.prog.globalNamed "loop.example/g00232/impl.fourSteps" = some 2 by kernel_rfl) (show (Tryz.prog.globals[2]?).map (·.type) = some 219 by kernel_rfl) Tryz.underlying219 Tryz.underlying193 (show Tryz.prog.cellsOf 193 = 1 by kernel_rfl) (show Tryz.prog.cellsOf 219 = 16 by kernel_rfl) h2
/-- what the row's list gives: what internal/strconv.uint64pow10 holds -/
theorem table1 {W : World} (h : laidMetH Tryz.prog Rows.fnExactOpenJournalRow.laid W) : Lib.TabIs Tryz.prog W "internal/strconv.uint64pow10" .u64 Lib.pow10Tab := by
  have h1 : laidMet Tryz.prog [("math/bits.deBruijn32tab", Rows.laid_math_bits_deBruijn32tab), ("math/bits.deBruijn64tab", Rows.laid_math_bits_deBruijn64tab), ("internal/strconv.uint64pow10", Rows.laid_internal_strconv_uint64pow10), ("loop.example/g00232/impl.fourSteps", Rows.laid_loop_example_g00232_impl_fourSteps)] W := h.1
  skip
  have h2 := h1.tail.tail
  rw [show (Rows.laid_internal_strconv_uint64pow10 : DataW Unit) = Lib.tabData .u64 Lib.pow10Tab by kernel_rfl] at h2
  exact Lib.tabIs_of_head (show Tryz.prog.globalNamed "internal/strconv.uint64pow10" = some 1 by kernel_rfl) (show (Tryz.prog.globals[1]?).map (·.type) = some 214 by kernel_rfl) Tryz.underlying214 Tryz.underlying200 (show Tryz.prog.cellsOf 200 = 1 by kernel_rfl) (show Tryz.prog.cellsOf 214 = 20 by kernel_rfl) h2
theorem handleRt : (Tryz.prog.cutTypes.find? (·.1 == "internal/reflectlite.rtype")).map (·.2) = some 170 := by kernel_rfl
theorem handleRow : ((List.range 250).filter fun t => Tryz.prog.rowNamed t [101, 114, 114, 111, 114]) = [63] := by kernel_rfl
theorem handleSize : Tryz.prog.types.size = 250 := by kernel_rfl
theorem handleAt : Tryz.prog.globalNamed "errors.errorType" = some 0 := by kernel_rfl
/-- what the row's list gives: the handle that errors.errorType holds -/
theorem handle0 {W : World} (h : laidMetH Tryz.prog Rows.fnExactOpenJournalRow.laid W) : W.cell? ⟨0, 0, none⟩ = some (rt hE) := by
  have h1 : handlesMet Tryz.prog [("errors.errorType", Rows.laid_errors_errorType)] W := h.2
  obtain ⟨name, u, ty, e1, e2, e3, e4, e5⟩ := h1 _ (List.mem_singleton.2 rfl)
  have en : name = [101, 114, 114, 111, 114] := (Option.some.inj e1).symm
  subst en
  obtain rfl := Option.some.inj (handleRt.symm.trans e2)
  have hm : ty ∈ (List.range 250).filter fun t => Tryz.prog.rowNamed t [101, 114, 114, 111, 114] := List.mem_filter.2 ⟨List.mem_range.2 (by rw [← handleSize]; exact e3), e4⟩
  rw [handleRow] at hm
  obtain rfl := List.mem_singleton.1 hm
  have hh : typeHandle Tryz.prog 63 = hE := by kernel_rfl
  rw [hh] at e5
  simpa using World.var?_cell handleAt e5 0
set_option maxRecDepth 1000000 in
theorem contract (H : Type) (enc : TypeId × Value → H) (W : World) (base : Nat) (args : Array Value) (ds gs : List (DataW H)) (before : List MemPlace)
    (hval : ∀ (j : Nat) t v, Tryz.f3.params[j]? = some t → args[j]? = some v → Value.okWide Tryz.prog W .any base t v)
    (hW : DataW.Whole enc Tryz.prog Tryz.f3.params.toList Rows.fnExactOpenJournalSpec.vars false W args.toList ds gs before) (hL : laidMetH Tryz.prog Rows.fnExactOpenJournalRow.laid W) :
    Calls Tryz.prog 3 args W fun e W' => ∃ v, e = .returned v ∧ Rows.fnExactOpenJournalSpec.post enc Tryz.prog Tryz.f3 false true false false W args v W' := by
  have hW' := hW
  obtain ⟨p, q, hA0, hV0, rfl, hfz, hnd⟩ := hW
  have hV : DataW.TrodVars enc Tryz.prog W (fun _ => true) Rows.fnExactOpenJournalSpec.vars gs q := hV0
  have hA : DataW.TrodAll enc Tryz.prog W 0 (fun _ => true) true Tryz.f3.params.toList args.toList ds p := hA0
  rw [Tryz.params3] at hA hval
  obtain ⟨v0, vs0, d0, ds0, p0, q0, hargs0, rfl, rfl, h0, r0⟩ := trodAll_cons hA
  obtain ⟨rfl, rfl, rfl⟩ := trodAll_nil r0
  obtain rfl : args = #[v0] := by cases args; simp_all
  have k0 := h0
  have lt0 : ∀ x ∈ p0, x.block < W.heap.size := by obtain ⟨m, hm⟩ := k0; exact DataW.trod_lt m _ _ _ hm
  obtain ⟨a0, l0, cap0, rfl, hc0, hm0, hat0, hfit0, hkept0⟩ := open_disk (hval 0 24 v0 rfl rfl) h0
  clear hA0 hV0
  have hgs : gs.length = 1 := by
    have := hV
    clear hV hW' hL
    match gs, this with
    | [_], _ => rfl
  match gs, hgs, hV, hW' with
  | [g0], _, hV, hW' =>
    refine (walk a0 l0 cap0 (Nat.le_trans hc0 hm0) hfit0 hkept0 W hat0 (table0 hL) (table1 hL) (handle0 hL)).mono fun e W' ⟨he, bel⟩ => ?_
    subst he
    exact ⟨_, rfl, _, _, _, [], _, _, hW', trodAll_mk1 (shut_bool Tryz.underlying4 _), trodAll_cons_mk (Below.trod laidOut (by kernel_rfl) (of_decide_eq_true (by kernel_rfl)) k0 bel lt0) (trodAll_mk0), Below.trodVars laidOut bel rowed hV, bel.frame _, fun h => by cases h⟩

def put (cs : Array Value) : Obj → Obj
  | .cells _ t frozen => .cells cs t frozen
  | o => o

/-- a world for the witness: the tables hold what their initialisers lay -/
def laidWorld (w : World) : World := { w with heap := (((((w.heap.modify 0 (put #[rt hE])).modify 3 (put (([0, 1, 28, 2, 29, 14, 24, 3, 30, 22, 20, 15, 25, 17, 4, 8, 31, 27, 13, 23, 21, 19, 16, 7, 26, 12, 18, 6, 11, 5, 10, 9] : List Int).map (Value.int .u8)).toArray)).modify 4 (put (([0, 1, 56, 2, 57, 49, 28, 3, 61, 58, 42, 50, 38, 29, 17, 4, 62, 47, 59, 36, 45, 43, 51, 22, 53, 39, 33, 30, 24, 18, 12, 5, 63, 55, 48, 27, 60, 41, 37, 16, 46, 35, 44, 21, 52, 32, 23, 11, 54, 26, 40, 15, 34, 20, 31, 10, 25, 14, 19, 9, 13, 8, 7, 6] : List Int).map (Value.int .u8)).toArray)).modify 1 (put (([1, 10, 100, 1000, 10000, 100000, 1000000, 10000000, 100000000, 1000000000, 10000000000, 100000000000, 1000000000000, 10000000000000, 100000000000000, 1000000000000000, 10000000000000000, 100000000000000000, 1000000000000000000, 10000000000000000000] : List Int).map (Value.int .u64)).toArray)).modify 2 (put (([0, 1166650509, 2333301018, 3466261911, 3189058079, 4221339282, 889615109, 1888477064, 3558460437, 2442158232, 1594529039, 444807554, 1779230218, 797264519, 3776954128, 2761298845] : List Int).map (Value.int .u32)).toArray)) }
theorem laid_met (os : Os) : laidMetH Tryz.prog Rows.fnExactOpenJournalRow.laid ((laidWorld (World.holding Tryz.prog os ⟨#[], #[], []⟩)).forCall (fun _ _ => 0) ⟨#[], #[.agg #[.slice none 0 0]], []⟩).memory :=
  laidMetH_of_parts (laidMet_of_run' 8 (by kernel_rfl) (by kernel_rfl)) (by kernel_rfl)
theorem reads (os : Os) {H : Type} (enc : TypeId × Value → H) : ∃ places, DataW.whole enc Tryz.prog ((laidWorld (World.holding Tryz.prog os ⟨#[], #[], []⟩)).forCall (fun _ _ => 0) ⟨#[], #[.agg #[.slice none 0 0]], []⟩).memory Tryz.f3.params.toList Rows.fnExactOpenJournalSpec.vars false #[Value.agg #[.slice none 0 0]].toList 8 = some ([.agg [.nil]], [Rows.laid_loop_example_g00232_impl_fourSteps], places) :=
  ⟨(List.range 16).map (MemPlace.cell 2), by kernel_rfl⟩

set_option maxRecDepth 1000000 in
theorem lifted (os : Os) (started : os.Started) (H : Type) (enc : TypeId × Value → H) (F : Stop.Interp) :
    ReturnsInHanded {} Tryz.checked os 3 .any ((OpenSpec.ofChange Rows.fnExactOpenJournalSpec).preRow enc Tryz.prog Tryz.f3 Rows.fnExactOpenJournalRow.domain false Rows.fnExactOpenJournalRow.laid) (((OpenSpec.ofChange Rows.fnExactOpenJournalSpec).at F).post enc Tryz.prog Tryz.f3 false true false false) := by
  obtain ⟨places, hx⟩ := reads os enc
  refine returnsInHanded_of_row (C := Tryz.checked) (s := OpenSpec.ofChange Rows.fnExactOpenJournalSpec) own started (by kernel_rfl) Tryz.func3
    (witness_row_at (enc := enc) (C := Tryz.checked) false (laidWorld (World.holding Tryz.prog os ⟨#[], #[], []⟩)) #[.agg #[.slice none 0 0]] rfl (by kernel_rfl) (by kernel_rfl) (by kernel_rfl)
      (OpenSpec.preRow_of_cond 8 hx (by kernel_rfl) (fun k hk => by cases hk) (by kernel_rfl) (laid_met os))) ?_
  intro W base args ds gs before hval hW _ _ _ hL _ _
  exact contract H enc W base args ds gs before hval hW hL

theorem said : Rows.FnExactOpenJournalSaid :=
  OpenClaim.holds_of_cond 3 Tryz.f3 rfl rfl rfl rfl rfl rfl rfl ⟨rfl, rfl, rfl, rfl, rfl⟩ rfl rfl rfl rfl rfl (by kernel_rfl) Tryz.func3 (by kernel_rfl)
    (of_decide_eq_true (by kernel_rfl)) (by unfold Func.isWrapper; first | (rw [if_pos (by decide +kernel)]; kernel_rfl) | (rw [if_neg (by decide +kernel)]; exact ⟨rfl, rfl⟩))
    (fun os started H enc _ F => by rw [OpenClaim.pre_eq_preRow]; exact lifted os started H enc F)

theorem plain (f : FuncId) (fn : Func) (hf : Tryz.pinned.checked.prog.funcNamed "loop.example/g00232/laws.FnExactOpenJournal" = some f) (hfn : Tryz.pinned.checked.prog.funcs[f]? = some fn) :
    true = Tryz.pinned.checked.prog.looks [] ∧ ∀ (j : Nat) t, fn.params[j]? = some t → Tryz.pinned.checked.prog.wantsStandIn t = false := by
  obtain rfl : f = 3 := Option.some.inj ((show Tryz.prog.funcNamed "loop.example/g00232/laws.FnExactOpenJournal" = some 3 by kernel_rfl).symm.trans hf) |>.symm
  obtain rfl : fn = Tryz.f3 := (Option.some.inj (Tryz.func3.symm.trans hfn)).symm
  refine ⟨by kernel_rfl, fun j t ht => ?_⟩
  rw [Tryz.params3] at ht
  obtain rfl : t = 24 := by simpa using Array.mem_of_getElem? ht
  exact (show Tryz.prog.wantsStandIn 24 = false by kernel_rfl)

theorem card : Rows.FnExactOpenJournalCardSaid :=
  Claim7.holds_tied_plain_at .later [] _ _ _ _ said (fun _ h => by cases h) (by kernel_rfl) (fun _ h => by cases h) fnExactOpenJournal_row_tie rfl ⟨rfl, rfl⟩ (by kernel_rfl) rfl plain (by kernel_rfl)
end Go.Proofs.YtbifkpkhpaellaaGreatDoor.fnExactOpenJournal
