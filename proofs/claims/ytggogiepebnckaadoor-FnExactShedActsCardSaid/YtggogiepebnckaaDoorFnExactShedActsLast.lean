/-
  For every disk, laws.FnExactShedActs returns true: impl.ShedActs and spec.ShedActs answer alike, and the answer owns its memory; nothing that was in memory is written. The table that impl reads is tied to the program's text (the card).
-/
import Derived.Test.YtggogiepebnckaaDoorCards
import Derived.Test.YtggogiepebnckaaDoorTie
import Derived.Test.YtggogiepebnckaaDoorJoint3
import Derived.Test.YtggogiepebnckaaDoorJoint8
import Derived.Test.YtggogiepebnckaaDoorJoint48
import Derived.Test.YtggogiepebnckaaDoorJoint47
import Derived.Deep.DeepCutAuto
import Derived.Deep.RegionWith
import Derived.WalkSmall
import Derived.WalkKit
import Derived.ProofKit
import Derived.OpenShut
import Derived.OpenVars
import Derived.Deep.DeepHandedRow
import Derived.Lib.LaidTab
import Derived.Stop.LaidErr
namespace Go.Proofs.YtggogiepebnckaaDoor.fnExactShedActs
open Go.ChangeShapes Go.WideShapes Go.ChangeAt Go.ChangeMaps Go.RowKit

set_option maxRecDepth 1000000 in
set_option maxHeartbeats 8000000 in
theorem walk (ao : Option Addr) (l : List FileD) (cap : Nat) (hl : l.length ≤ maxLen) (hf : FilesFit l) (_hk : KeptFit l) (w : World) (ha : FilesAt w ao l) (ht : Steps w) :
    Calls Tryd.prog 5 #[.agg #[.slice ao l.length cap]] w fun e w' => e = .returned (.bool true) ∧ Below w.heap.size w w' := by
  have HA := hid ha
  have HT := hid ht
  have XD0 := hid (show BlockIs (w.alloc (.cells #[.slice ao l.length cap] 32)) w.heap.size 32 [.slice ao l.length cap] from heap_alloc_new w _)
  have B0 := hid (below_more (Below.refl w.heap.size w) (.cells #[.slice ao l.length cap] 32))
  have O0 := hid XD0.out.lt
  clear ha ht
  go_enter Tryd.func5, Tryd.ntmps5
  go_wp2_with fail
  refine (szDisk_any ao l cap 1048576 (by omega) (by omega) hl hf _ (HA.out.on B0.out)).mono ?_
  rintro e w1 ⟨hor, b1⟩
  have O1 := hid b1.size
  have B_1 := hid (below_via B0.out b1)
  have XD_1 := hid (XD0.out.on b1 XD0.out.lt)
  clear b1 B0 XD0
  have cXD0_1 := XD_1.out.cell (j := 0) rfl
  rcases hor with ⟨hneg, rfl⟩ | ⟨hnn, rfl⟩
  · go_wp2
    go_ret
    exact ⟨rfl, B_1.out⟩
  have hl2 := (filesSmall hnn).1
  have HSM := hid (fun f (h : f ∈ l) => ((filesSmall hnn).2 f h).2)
  have HSN := hid (fun f (h : f ∈ l) => ((filesSmall hnn).2 f h).1)
  clear hf hl
  obtain ⟨lf, hlf⟩ : ∃ q, (1048576 : Int) - l.length - fileBulk l = q := ⟨_, rfl⟩
  rw [hlf] at hnn ⊢
  clear hlf
  have hz4 := shed_few (l := l)
  have CS' := fun va vc w ha => specShed_o va l vc hl2 HSM.out HSN.out w ha
  have CI' := fun va vc w ha ht => implShed_o va l vc hl2 HSM.out HSN.out w ha ht
  obtain ⟨A, hA⟩ : ∃ x, shedActs l = x := ⟨_, rfl⟩
  simp only [hA] at CS' CI' hz4
  have CS := hid CS'
  have CI := hid CI'
  clear CS' CI' hA
  go_wp2_with fail
  refine (toDisk_o ao l cap hl2 _ (HA.out.on B_1.out)).mono ?_
  rintro e w2 ⟨v2, c2, rfl, h2, b2⟩
  have O2 := hid b2.size
  have Y2 := hid h2
  clear h2
  have B_2 := hid (below_via B_1.out b2)
  have XD_2 := hid (XD_1.out.on b2 XD_1.out.lt)
  clear b2 B_1 XD_1 cXD0_1
  have cXD0_2 := XD_2.out.cell (j := 0) rfl
  go_wp2_with fail
  refine (CS.out v2 c2 _ Y2.out.files).mono ?_
  rintro e w3 ⟨v3, c3, rfl, h3, b3⟩
  have O3 := hid b3.size
  have Rw := hid h3
  clear h3
  have B_3 := hid (below_via B_2.out b3)
  have XD_3 := hid (XD_2.out.on b3 XD_2.out.lt)
  have Y2_3 := hid (Y2.out.on b3)
  clear b3 B_2 XD_2 Y2 cXD0_2
  have cXD0_3 := XD_3.out.cell (j := 0) rfl
  clear Y2_3
  go_wp2_with fail
  refine (toDisk_o ao l cap hl2 _ (HA.out.on B_3.out)).mono ?_
  rintro e w4 ⟨v4, c4, rfl, h4, b4⟩
  have O4 := hid b4.size
  have Y4 := hid h4
  clear h4
  have B_4 := hid (below_via B_3.out b4)
  have XD_4 := hid (XD_3.out.on b4 XD_3.out.lt)
  have Rw_4 := hid (Rw.out.on b4)
  clear b4 B_3 XD_3 Rw cXD0_3
  have cXD0_4 := XD_4.out.cell (j := 0) rfl
  have ba := below_more (Below.refl w4.heap.size w4) (.cells #[.slice v4 l.length c4] 37)
  have hx : BlockIs (w4.alloc (.cells #[.slice v4 l.length c4] 37)) w4.heap.size 37 [.slice v4 l.length c4] := heap_alloc_new w4 _
  have B_4a := hid (below_via B_4.out ba)
  have XD_4a := hid (XD_4.out.on ba XD_4.out.lt)
  have Rw_4a := hid (Rw_4.out.on ba)
  have Y4_4a := hid (Y4.out.on ba)
  have Xx_4a := hid hx
  have O4a := hid hx.lt
  clear ba hx B_4 XD_4 Rw_4 Y4 cXD0_4
  have cXD0_4a := XD_4a.out.cell (j := 0) rfl
  have cXx0_4a := Xx_4a.out.cell (j := 0) rfl
  go_wp2_with fail
  refine (CI.out v4 c4 _ Y4_4a.out.files (steps_on HT.out B_4a.out)).mono ?_
  rintro e w5 ⟨v5, c5, rfl, h5, b5⟩
  have O5 := hid b5.size
  have Rg := hid h5
  clear h5
  have B_5 := hid (below_via B_4a.out b5)
  have XD_5 := hid (XD_4a.out.on b5 XD_4a.out.lt)
  have Rw_5 := hid (Rw_4a.out.on b5)
  have Y4_5 := hid (Y4_4a.out.on b5)
  have Xx_5 := hid (Xx_4a.out.on b5 Xx_4a.out.lt)
  clear b5 B_4a XD_4a Rw_4a Y4_4a Xx_4a cXD0_4a cXx0_4a
  have cXD0_5 := XD_5.out.cell (j := 0) rfl
  have cXx0_5 := Xx_5.out.cell (j := 0) rfl
  go_wp2_with fail
  refine (eqActS_same v5 v3 A c5 c3 (by omega) _ Rg.out.acts Rw_5.out.acts).mono ?_
  rintro e w6 ⟨rfl, b6⟩
  have O6 := hid b6.size
  have B_6 := hid (below_via B_5.out b6)
  have XD_6 := hid (XD_5.out.on b6 XD_5.out.lt)
  have Rw_6 := hid (Rw_5.out.on b6)
  have Y4_6 := hid (Y4_5.out.on b6)
  have Xx_6 := hid (Xx_5.out.on b6 Xx_5.out.lt)
  have Rg_6 := hid (Rg.out.on b6)
  clear b6 B_5 XD_5 Rw_5 Y4_5 Xx_5 Rg cXD0_5 cXx0_5
  have cXD0_6 := XD_6.out.cell (j := 0) rfl
  have cXx0_6 := Xx_6.out.cell (j := 0) rfl
  have CT : Hid (Calls Tryd.prog 14 #[.agg #[.slice ao l.length cap]] w6.drew fun e w7 => ∃ v7 c7, e = .returned (.agg #[.slice v7 l.length c7]) ∧ w7.cell? ⟨w4.heap.size, 0, none⟩ = some (.slice v4 l.length c4) ∧ Hid (Below w6.heap.size w6 w7 ∧ FilesAt w7 v7 l)) := by
    have hd : Below w6.heap.size w6 w6.drew := below_drewN (Below.refl _ _) 1
    refine Calls.mono (toDisk_o ao l cap hl2 w6.drew (HA.out.on (below_via B_6.out hd))) ?_
    rintro e w7 ⟨v7, c7, rfl, h7, b7⟩
    have h67 := below_via hd b7
    exact ⟨v7, c7, rfl, (Xx_6.out.on h67 Xx_6.out.lt).cell (j := 0) rfl, h67, h7.files⟩
  go_upto_region 10 with fail
  go_cut [31] (fun sa wx => sa = .bool false ∧ Hid (Below w6.heap.size w6 wx))
  case first =>
    go_region_with (first | (go_at_call 14; refine Calls.mono CT.out ?_; rintro e w7 ⟨v7, c7, rfl, y7, H7⟩) | (go_at_call 16; refine (eqDisk_o _ _ l _ _ hl2 _ ((Y4_6.out.on H7.out.1).files) H7.out.2).mono ?_; rintro e w8 ⟨rfl, b8⟩))
    all_goals
      go_wp2_with fail
      go_meet
      exact ⟨rfl, below_via H7.out.1 b8⟩
  case rest =>
  obtain ⟨w8, hwc⟩ : ∃ W, W = wc := ⟨_, rfl⟩
  subst hwc
  obtain ⟨rfl, HCX⟩ := hcut
  have bb := HCX.out
  have O8 := hid bb.size
  have B_8 := hid (below_via B_6.out bb)
  have XD_8 := hid (XD_6.out.on bb XD_6.out.lt)
  have Rw_8 := hid (Rw_6.out.on bb)
  have Y4_8 := hid (Y4_6.out.on bb)
  have Xx_8 := hid (Xx_6.out.on bb Xx_6.out.lt)
  have Rg_8 := hid (Rg_6.out.on bb)
  clear bb HCX CT B_6 XD_6 Rw_6 Y4_6 Xx_6 Rg_6 cXD0_6 cXx0_6
  have cXD0_8 := XD_8.out.cell (j := 0) rfl
  have cXx0_8 := Xx_8.out.cell (j := 0) rfl
  go_wp2_with fail
  refine (markDisk_o 1 v4 c4 l (w3.heap.size) (w4.heap.size) (by omega) (by omega) _ (by have := O0.out; have := O1.out; have := O2.out; have := O3.out; have := O4.out; have := O4a.out; have := O5.out; have := O6.out; have := O8.out; omega) Y4_8.out).mono ?_
  rintro e w9 ⟨rfl, hm9, kp, b9⟩
  have O9 := hid b9.size
  have B_9 := hid (B_8.out.trans (b9.mono (by have := O0.out; have := O1.out; have := O2.out; have := O3.out; have := O4.out; have := O4a.out; have := O5.out; have := O6.out; have := O8.out; have := O9.out; omega)))
  have XD_9 := hid (XD_8.out.kept kp (by have := O0.out; have := O1.out; have := O2.out; have := O3.out; have := O4.out; have := O4a.out; have := O5.out; have := O6.out; have := O8.out; have := O9.out; omega))
  have Rw_9 := hid (Rw_8.out.kept kp (by have := O0.out; have := O1.out; have := O2.out; have := O3.out; have := O4.out; have := O4a.out; have := O5.out; have := O6.out; have := O8.out; have := O9.out; omega))
  have Xx_9 := hid (Xx_8.out.kept kp (by have := O0.out; have := O1.out; have := O2.out; have := O3.out; have := O4.out; have := O4a.out; have := O5.out; have := O6.out; have := O8.out; have := O9.out; omega))
  have Rg_9 := hid (Rg_8.out.kept kp (by have := O0.out; have := O1.out; have := O2.out; have := O3.out; have := O4.out; have := O4a.out; have := O5.out; have := O6.out; have := O8.out; have := O9.out; omega))
  have M9 := hid hm9
  clear kp b9 hm9 Y4_8 B_8 XD_8 Rw_8 Xx_8 Rg_8 cXD0_8 cXx0_8
  obtain ⟨N9, hN9⟩ : ∃ N, 1 + 3 * l.length = N := ⟨_, rfl⟩
  have hNb9 : N9 ≤ 10000000 := by omega
  rw [hN9]
  have cXD0_9 := XD_9.out.cell (j := 0) rfl
  have cXx0_9 := Xx_9.out.cell (j := 0) rfl
  clear M9 hN9
  go_wp2_with fail
  refine (eqActS_same v5 v3 A c5 c3 (by omega) _ Rg_9.out.acts Rw_9.out.acts).mono ?_
  rintro e w10 ⟨rfl, b10⟩
  have O10 := hid b10.size
  have B_10 := hid (below_via B_9.out b10)
  have XD_10 := hid (XD_9.out.on b10 XD_9.out.lt)
  have Rw_10 := hid (Rw_9.out.on b10)
  have Xx_10 := hid (Xx_9.out.on b10 Xx_9.out.lt)
  have Rg_10 := hid (Rg_9.out.on b10)
  clear b10 B_9 XD_9 Rw_9 Xx_9 Rg_9 cXD0_9 cXx0_9
  have cXD0_10 := XD_10.out.cell (j := 0) rfl
  have cXx0_10 := Xx_10.out.cell (j := 0) rfl
  go_wp2_with fail
  refine (markActS_own v5 c5 A ((w4.alloc (.cells #[.slice v4 l.length c4] 37)).heap.size) (w5.heap.size) 1 (by omega) (by omega) _ (by have := O0.out; have := O1.out; have := O2.out; have := O3.out; have := O4.out; have := O4a.out; have := O5.out; have := O6.out; have := O8.out; have := O9.out; have := O10.out; omega) Rg_10.out).mono ?_
  rintro e w11 ⟨rfl, hm11, kp, b11⟩
  have O11 := hid b11.size
  have B_11 := hid (B_10.out.trans (b11.mono (by have := O0.out; have := O1.out; have := O2.out; have := O3.out; have := O4.out; have := O4a.out; have := O5.out; have := O6.out; have := O8.out; have := O9.out; have := O10.out; have := O11.out; omega)))
  have XD_11 := hid (XD_10.out.kept kp (by have := O0.out; have := O1.out; have := O2.out; have := O3.out; have := O4.out; have := O4a.out; have := O5.out; have := O6.out; have := O8.out; have := O9.out; have := O10.out; have := O11.out; omega))
  have Rw_11 := hid (Rw_10.out.kept kp (by have := O0.out; have := O1.out; have := O2.out; have := O3.out; have := O4.out; have := O4a.out; have := O5.out; have := O6.out; have := O8.out; have := O9.out; have := O10.out; have := O11.out; omega))
  have Xx_11 := hid (Xx_10.out.kept kp (by have := O0.out; have := O1.out; have := O2.out; have := O3.out; have := O4.out; have := O4a.out; have := O5.out; have := O6.out; have := O8.out; have := O9.out; have := O10.out; have := O11.out; omega))
  have M11 := hid hm11
  clear kp b11 hm11 Rg_10 B_10 XD_10 Rw_10 Xx_10 cXD0_10 cXx0_10
  obtain ⟨N11, hN11⟩ : ∃ N, 1 + 4 * A.length = N := ⟨_, rfl⟩
  have hNb11 : N11 ≤ 10000000 := by omega
  rw [hN11]
  have cXD0_11 := XD_11.out.cell (j := 0) rfl
  have cXx0_11 := Xx_11.out.cell (j := 0) rfl
  have CH' := fun w h => heldActS_any v5 A.length c5 1 (by omega) (by omega) w h
  rw [hN11] at CH'
  have CH := hid CH'
  clear CH' hN11
  go_wp2_with fail
  refine (CH.out _ M11.out).mono ?_
  rintro e w12 ⟨rfl, b12⟩
  have O12 := hid b12.size
  have B_12 := hid (below_via B_11.out b12)
  have XD_12 := hid (XD_11.out.on b12 XD_11.out.lt)
  have Rw_12 := hid (Rw_11.out.on b12)
  have Xx_12 := hid (Xx_11.out.on b12 Xx_11.out.lt)
  have M_12 := hid (M11.out.on b12)
  clear b12 B_11 XD_11 Rw_11 Xx_11 M11 cXD0_11 cXx0_11
  have cXD0_12 := XD_12.out.cell (j := 0) rfl
  have cXx0_12 := Xx_12.out.cell (j := 0) rfl
  go_wp2_with fail
  refine (toDisk_o ao l cap hl2 _ (HA.out.on B_12.out)).mono ?_
  rintro e w13 ⟨v13, c13, rfl, h13, b13⟩
  have O13 := hid b13.size
  have Y13 := hid h13
  clear h13
  have B_13 := hid (below_via B_12.out b13)
  have XD_13 := hid (XD_12.out.on b13 XD_12.out.lt)
  have Rw_13 := hid (Rw_12.out.on b13)
  have Xx_13 := hid (Xx_12.out.on b13 Xx_12.out.lt)
  have M_13 := hid (M_12.out.on b13)
  clear b13 B_12 XD_12 Rw_12 Xx_12 M_12 cXD0_12 cXx0_12
  have cXD0_13 := XD_13.out.cell (j := 0) rfl
  have cXx0_13 := Xx_13.out.cell (j := 0) rfl
  go_wp2_with fail
  refine (CI.out v13 c13 _ Y13.out.files (steps_on HT.out B_13.out)).mono ?_
  rintro e w14 ⟨v14, c14, rfl, h14, b14⟩
  have O14 := hid b14.size
  have Rh := hid h14
  clear h14
  have B_14 := hid (below_via B_13.out b14)
  have XD_14 := hid (XD_13.out.on b14 XD_13.out.lt)
  have Rw_14 := hid (Rw_13.out.on b14)
  have Xx_14 := hid (Xx_13.out.on b14 Xx_13.out.lt)
  have M_14 := hid (M_13.out.on b14)
  have Y13_14 := hid (Y13.out.on b14)
  clear b14 B_13 XD_13 Rw_13 Xx_13 M_13 Y13 cXD0_13 cXx0_13
  have cXD0_14 := XD_14.out.cell (j := 0) rfl
  have cXx0_14 := Xx_14.out.cell (j := 0) rfl
  clear Y13_14
  go_wp2_with fail
  refine (eqActS_same v14 v3 A c14 c3 (by omega) _ Rh.out.acts Rw_14.out.acts).mono ?_
  rintro e w15 ⟨rfl, b15⟩
  have O15 := hid b15.size
  have B_15 := hid (below_via B_14.out b15)
  have XD_15 := hid (XD_14.out.on b15 XD_14.out.lt)
  have Rw_15 := hid (Rw_14.out.on b15)
  have Xx_15 := hid (Xx_14.out.on b15 Xx_14.out.lt)
  have M_15 := hid (M_14.out.on b15)
  have Rh_15 := hid (Rh.out.on b15)
  clear b15 B_14 XD_14 Rw_14 Xx_14 M_14 Rh cXD0_14 cXx0_14
  have cXD0_15 := XD_15.out.cell (j := 0) rfl
  have cXx0_15 := Xx_15.out.cell (j := 0) rfl
  go_wp2_with fail
  refine (CH.out _ M_15.out).mono ?_
  rintro e w16 ⟨rfl, b16⟩
  have O16 := hid b16.size
  have B_16 := hid (below_via B_15.out b16)
  have XD_16 := hid (XD_15.out.on b16 XD_15.out.lt)
  have Rw_16 := hid (Rw_15.out.on b16)
  have Xx_16 := hid (Xx_15.out.on b16 Xx_15.out.lt)
  have M_16 := hid (M_15.out.on b16)
  have Rh_16 := hid (Rh_15.out.on b16)
  clear b16 B_15 XD_15 Rw_15 Xx_15 M_15 Rh_15 cXD0_15 cXx0_15
  have cXD0_16 := XD_16.out.cell (j := 0) rfl
  have cXx0_16 := Xx_16.out.cell (j := 0) rfl
  go_wp2
  go_ret
  exact ⟨rfl, B_16.out⟩

theorem own : ownKnob Tryd.prog.godebug = none := by kernel_rfl
theorem laidOut : laidOutB Tryd.prog = true := by kernel_rfl
theorem rowed : varsRowed Tryd.prog Rows.fnExactShedActsSpec.vars = true := by kernel_rfl
/-- what the row's list gives: what loop.example/g00232/impl.fourSteps holds -/
theorem table0 {W : World} (h : laidMetH Tryd.prog Rows.fnExactShedActsRow.laid W) : Lib.TabIs Tryd.prog W "loop.example/g00232/impl.fourSteps" .u32 stepsTab := by
  have h1 : laidMet Tryd.prog Rows.fnExactShedActsRow.laid W := h
  unfold Rows.fnExactShedActsRow at h1
  have h2 := h1
  rw [show (Rows.laid_loop_example_g00232_impl_fourSteps : DataW Unit) = Lib.tabData .u32 stepsTab by kernel_rfl] at h2
  exact Lib.tabIs_of_head (show Tryd.prog.globalNamed "loop.example/g00232/impl.fourSteps" = some 0 by kernel_rfl) (show (Tryd.prog.globals[0]?).map (·.type) = some 130 by kernel_rfl) Tryd.underlying130 Tryd.underlying123 (show Tryd.prog.cellsOf 123 = 1 by kernel_rfl) (show Tryd.prog.cellsOf 130 = 16 by kernel_rfl) h2
set_option maxRecDepth 1000000 in
theorem contract (H : Type) (enc : TypeId × Value → H) (W : World) (base : Nat) (args : Array Value) (ds gs : List (DataW H)) (before : List MemPlace)
    (hval : ∀ (j : Nat) t v, Tryd.f5.params[j]? = some t → args[j]? = some v → Value.okWide Tryd.prog W .any base t v)
    (hW : DataW.Whole enc Tryd.prog Tryd.f5.params.toList Rows.fnExactShedActsSpec.vars false W args.toList ds gs before) (hL : laidMetH Tryd.prog Rows.fnExactShedActsRow.laid W) :
    Calls Tryd.prog 5 args W fun e W' => ∃ v, e = .returned v ∧ Rows.fnExactShedActsSpec.post enc Tryd.prog Tryd.f5 false true false false W args v W' := by
  have hW' := hW
  obtain ⟨p, q, hA0, hV0, rfl, hfz, hnd⟩ := hW
  have hV : DataW.TrodVars enc Tryd.prog W (fun _ => true) Rows.fnExactShedActsSpec.vars gs q := hV0
  have hA : DataW.TrodAll enc Tryd.prog W 0 (fun _ => true) true Tryd.f5.params.toList args.toList ds p := hA0
  rw [Tryd.params5] at hA hval
  obtain ⟨v0, vs0, d0, ds0, p0, q0, hargs0, rfl, rfl, h0, r0⟩ := trodAll_cons hA
  obtain ⟨rfl, rfl, rfl⟩ := trodAll_nil r0
  obtain rfl : args = #[v0] := by cases args; simp_all
  have k0 := h0
  have lt0 : ∀ x ∈ p0, x.block < W.heap.size := by obtain ⟨m, hm⟩ := k0; exact DataW.trod_lt m _ _ _ hm
  obtain ⟨a0, l0, cap0, rfl, hc0, hm0, hat0, hfit0, hkept0⟩ := open_disk (hval 0 32 v0 rfl rfl) h0
  clear hA0 hV0
  have hgs : gs.length = 1 := by
    have := hV
    clear hV hW' hL
    match gs, this with
    | [_], _ => rfl
  match gs, hgs, hV, hW' with
  | [g0], _, hV, hW' =>
    refine (walk a0 l0 cap0 (Nat.le_trans hc0 hm0) hfit0 hkept0 W hat0 (table0 hL)).mono fun e W' ⟨he, bel⟩ => ?_
    subst he
    exact ⟨_, rfl, _, _, _, [], _, _, hW', trodAll_mk1 (shut_bool Tryd.underlying4 _), trodAll_cons_mk (Below.trod laidOut (by kernel_rfl) (of_decide_eq_true (by kernel_rfl)) k0 bel lt0) (trodAll_mk0), Below.trodVars laidOut bel rowed hV, bel.frame _, fun h => by cases h⟩

def put (cs : Array Value) : Obj → Obj
  | .cells _ t frozen => .cells cs t frozen
  | o => o

/-- a world for the witness: the tables hold what their initialisers lay -/
def laidWorld (w : World) : World := { w with heap := (w.heap.modify 0 (put (([0, 1166650509, 2333301018, 3466261911, 3189058079, 4221339282, 889615109, 1888477064, 3558460437, 2442158232, 1594529039, 444807554, 1779230218, 797264519, 3776954128, 2761298845] : List Int).map (Value.int .u32)).toArray)) }
theorem laid_met (os : Os) : laidMet Tryd.prog Rows.fnExactShedActsRow.laid ((laidWorld (World.holding Tryd.prog os ⟨#[], #[], []⟩)).forCall (fun _ _ => 0) ⟨#[], #[.agg #[.slice none 0 0]], []⟩).memory :=
  laidMet_of_run' 8 (by kernel_rfl) (by kernel_rfl)
theorem reads (os : Os) {H : Type} (enc : TypeId × Value → H) : ∃ places, DataW.whole enc Tryd.prog ((laidWorld (World.holding Tryd.prog os ⟨#[], #[], []⟩)).forCall (fun _ _ => 0) ⟨#[], #[.agg #[.slice none 0 0]], []⟩).memory Tryd.f5.params.toList Rows.fnExactShedActsSpec.vars false #[Value.agg #[.slice none 0 0]].toList 8 = some ([.agg [.nil]], [Rows.laid_loop_example_g00232_impl_fourSteps], places) :=
  ⟨(List.range 16).map (MemPlace.cell 0), by kernel_rfl⟩

set_option maxRecDepth 1000000 in
theorem lifted (os : Os) (started : os.Started) (H : Type) (enc : TypeId × Value → H) (F : Stop.Interp) :
    ReturnsInHanded {} Tryd.checked os 5 .any ((OpenSpec.ofChange Rows.fnExactShedActsSpec).preRow enc Tryd.prog Tryd.f5 Rows.fnExactShedActsRow.domain false Rows.fnExactShedActsRow.laid) (((OpenSpec.ofChange Rows.fnExactShedActsSpec).at F).post enc Tryd.prog Tryd.f5 false true false false) := by
  obtain ⟨places, hx⟩ := reads os enc
  refine returnsInHanded_of_row (C := Tryd.checked) (s := OpenSpec.ofChange Rows.fnExactShedActsSpec) own started (by kernel_rfl) Tryd.func5
    (witness_row_at (enc := enc) (C := Tryd.checked) false (laidWorld (World.holding Tryd.prog os ⟨#[], #[], []⟩)) #[.agg #[.slice none 0 0]] rfl (by kernel_rfl) (by kernel_rfl) (by kernel_rfl)
      (OpenSpec.preRow_of_cond 8 hx (by kernel_rfl) (fun k hk => by cases hk) (by kernel_rfl) (laid_met os))) ?_
  intro W base args ds gs before hval hW _ _ _ hL _ _
  exact contract H enc W base args ds gs before hval hW hL

theorem said : Rows.FnExactShedActsSaid :=
  OpenClaim.holds_of_cond 5 Tryd.f5 rfl rfl rfl rfl rfl rfl rfl ⟨rfl, rfl, rfl, rfl, rfl⟩ rfl rfl rfl rfl rfl (by kernel_rfl) Tryd.func5 (by kernel_rfl)
    (of_decide_eq_true (by kernel_rfl)) (by unfold Func.isWrapper; first | (rw [if_pos (by decide +kernel)]; kernel_rfl) | (rw [if_neg (by decide +kernel)]; exact ⟨rfl, rfl⟩))
    (fun os started H enc _ F => by rw [OpenClaim.pre_eq_preRow]; exact lifted os started H enc F)

theorem plain (f : FuncId) (fn : Func) (hf : Tryd.pinned.checked.prog.funcNamed "loop.example/g00232/laws.FnExactShedActs" = some f) (hfn : Tryd.pinned.checked.prog.funcs[f]? = some fn) :
    true = Tryd.pinned.checked.prog.looks [] ∧ ∀ (j : Nat) t, fn.params[j]? = some t → Tryd.pinned.checked.prog.wantsStandIn t = false := by
  obtain rfl : f = 5 := Option.some.inj ((show Tryd.prog.funcNamed "loop.example/g00232/laws.FnExactShedActs" = some 5 by kernel_rfl).symm.trans hf) |>.symm
  obtain rfl : fn = Tryd.f5 := (Option.some.inj (Tryd.func5.symm.trans hfn)).symm
  refine ⟨by kernel_rfl, fun j t ht => ?_⟩
  rw [Tryd.params5] at ht
  obtain rfl : t = 32 := by simpa using Array.mem_of_getElem? ht
  exact (show Tryd.prog.wantsStandIn 32 = false by kernel_rfl)

theorem card : Rows.FnExactShedActsCardSaid :=
  Claim7.holds_tied_plain_at .later [] _ _ _ _ said (fun _ h => by cases h) (by kernel_rfl) (fun _ h => by cases h) fnExactShedActs_row_tie rfl ⟨rfl, rfl⟩ (by kernel_rfl) rfl plain (by kernel_rfl)
end Go.Proofs.YtggogiepebnckaaDoor.fnExactShedActs
