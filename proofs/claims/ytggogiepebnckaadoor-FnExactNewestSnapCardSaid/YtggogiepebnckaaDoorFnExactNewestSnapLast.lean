/-
  For every disk, laws.FnExactNewestSnap returns true: impl.NewestSnap and spec.NewestSnap answer alike, and the answer owns its memory; nothing that was in memory is written. The table that impl reads is tied to the program's text (the card).
-/
import Derived.Test.YtggogiepebnckaaDoorCards
import Derived.Test.YtggogiepebnckaaDoorTie
import Derived.Test.YtggogiepebnckaaDoorJoint3
import Derived.Test.YtggogiepebnckaaDoorJoint8
import Derived.Test.YtggogiepebnckaaDoorJoint29
import Derived.Test.YtggogiepebnckaaDoorJoint43
import Derived.Test.YtggogiepebnckaaDoorJoint46
import Derived.Test.YtggogiepebnckaaDoorJoint47
import Derived.Test.YtggogiepebnckaaDoorJoint48
import Derived.Deep.DeepCutAuto
import Derived.Deep.RegionWith
import Derived.WalkSmall
import Derived.WalkKit
import Derived.ProofKit
import Derived.OpenShut
import Derived.OpenVars
import Derived.Deep.DeepHandedRow
import Derived.Lib.LaidTab
import Derived.Stop.LaidErr
namespace Go.Proofs.YtggogiepebnckaaDoor.fnExactNewestSnap
open Go.ChangeShapes Go.WideShapes Go.ChangeAt Go.ChangeMaps Go.RowKit

set_option maxRecDepth 1000000 in
set_option maxHeartbeats 8000000 in
theorem walk (ao : Option Addr) (l : List FileD) (cap : Nat) (hl : l.length ≤ maxLen) (hf : FilesFit l) (_hk : KeptFit l) (w : World) (ha : FilesAt w ao l) (ht : Steps w) :
    Calls Tryd.prog 4 #[.agg #[.slice ao l.length cap]] w fun e w' => e = .returned (.bool true) ∧ Below w.heap.size w w' := by
  have HA := hid ha
  have HT := hid ht
  have XD0 := hid (show BlockIs (w.alloc (.cells #[.slice ao l.length cap] 32)) w.heap.size 32 [.slice ao l.length cap] from heap_alloc_new w _)
  have B0 := hid (below_more (Below.refl w.heap.size w) (.cells #[.slice ao l.length cap] 32))
  have O0 := hid XD0.out.lt
  clear ha ht
  go_enter Tryd.func4, Tryd.ntmps4
  go_wp2_with fail
  refine (szDisk_any ao l cap 1048576 (by omega) (by omega) hl hf _ (HA.out.on B0.out)).mono ?_
  rintro e w1 ⟨hor, b1⟩
  have O1 := hid b1.size
  have B_1 := hid (below_via B0.out b1)
  have XD_1 := hid (XD0.out.on b1 XD0.out.lt)
  clear b1 B0 XD0
  have cXD0_1 := XD_1.out.cell (j := 0) rfl
  rcases hor with ⟨hneg, rfl⟩ | ⟨hnn, rfl⟩
  · go_wp2
    go_ret
    exact ⟨rfl, B_1.out⟩
  have hl2 := (filesSmall hnn).1
  have HSM := hid (fun f (h : f ∈ l) => ((filesSmall hnn).2 f h).2)
  have HSN := hid (fun f (h : f ∈ l) => ((filesSmall hnn).2 f h).1)
  clear hf hl
  obtain ⟨lf, hlf⟩ : ∃ q, (1048576 : Int) - l.length - fileBulk l = q := ⟨_, rfl⟩
  rw [hlf] at hnn ⊢
  clear hlf
  have hz4 := newest_small (l := l)
  have CS' := fun va vc w ha => specNewest_o va l vc hl2 HSM.out HSN.out w ha
  have CI' := fun va vc w ha ht => implNewest_o va l vc hl2 HSM.out w ha ht
  obtain ⟨ix, hix⟩ : ∃ x, snapIx (newestSnap l) = x := ⟨_, rfl⟩
  obtain ⟨tm, htm⟩ : ∃ x, snapTm (newestSnap l) = x := ⟨_, rfl⟩
  obtain ⟨zs, hzs⟩ : ∃ x, snapZs (newestSnap l) = x := ⟨_, rfl⟩
  obtain ⟨bd, hbd⟩ : ∃ x, snapBd (newestSnap l) = x := ⟨_, rfl⟩
  obtain ⟨ok, hok⟩ : ∃ x, (newestSnap l).isSome = x := ⟨_, rfl⟩
  simp only [hix, htm, hzs, hbd, hok] at CS' CI' hz4
  have CS := hid CS'
  have CI := hid CI'
  clear CS' CI' hix htm hzs hbd hok
  go_wp2_with fail
  refine (toDisk_o ao l cap hl2 _ (HA.out.on B_1.out)).mono ?_
  rintro e w2 ⟨v2, c2, rfl, h2, b2⟩
  have O2 := hid b2.size
  have Y2 := hid h2
  clear h2
  have B_2 := hid (below_via B_1.out b2)
  have XD_2 := hid (XD_1.out.on b2 XD_1.out.lt)
  clear b2 B_1 XD_1 cXD0_1
  have cXD0_2 := XD_2.out.cell (j := 0) rfl
  go_wp2_with fail
  refine (CS.out v2 c2 _ Y2.out.files).mono ?_
  rintro e w3 ⟨v3, c3, rfl, h3, b3⟩
  have O3 := hid b3.size
  have Rw := hid h3
  clear h3
  have B_3 := hid (below_via B_2.out b3)
  have XD_3 := hid (XD_2.out.on b3 XD_2.out.lt)
  have Y2_3 := hid (Y2.out.on b3)
  clear b3 B_2 XD_2 Y2 cXD0_2
  have cXD0_3 := XD_3.out.cell (j := 0) rfl
  clear Y2_3
  have ba := below_more (Below.refl w3.heap.size w3) (.cells #[.int .i64 ix, .int .i64 tm, .slice v3 zs.length c3, .string bd] 24)
  have hx : BlockIs (w3.alloc (.cells #[.int .i64 ix, .int .i64 tm, .slice v3 zs.length c3, .string bd] 24)) w3.heap.size 24 [.int .i64 ix, .int .i64 tm, .slice v3 zs.length c3, .string bd] := heap_alloc_new w3 _
  have B_3a := hid (below_via B_3.out ba)
  have XD_3a := hid (XD_3.out.on ba XD_3.out.lt)
  have Rw_3a := hid (Rw.out.on ba)
  have Xw_3a := hid hx
  have O3a := hid hx.lt
  clear ba hx B_3 XD_3 Rw cXD0_3
  have cXD0_3a := XD_3a.out.cell (j := 0) rfl
  have cXw0_3a := Xw_3a.out.cell (j := 0) rfl
  have cXw1_3a := Xw_3a.out.cell (j := 1) rfl
  have cXw2_3a := Xw_3a.out.cell (j := 2) rfl
  have cXw3_3a := Xw_3a.out.cell (j := 3) rfl
  go_wp2_with fail
  refine (toDisk_o ao l cap hl2 _ (HA.out.on B_3a.out)).mono ?_
  rintro e w4 ⟨v4, c4, rfl, h4, b4⟩
  have O4 := hid b4.size
  have Y4 := hid h4
  clear h4
  have B_4 := hid (below_via B_3a.out b4)
  have XD_4 := hid (XD_3a.out.on b4 XD_3a.out.lt)
  have Rw_4 := hid (Rw_3a.out.on b4)
  have Xw_4 := hid (Xw_3a.out.on b4 Xw_3a.out.lt)
  clear b4 B_3a XD_3a Rw_3a Xw_3a cXD0_3a cXw0_3a cXw1_3a cXw2_3a cXw3_3a
  have cXD0_4 := XD_4.out.cell (j := 0) rfl
  have cXw0_4 := Xw_4.out.cell (j := 0) rfl
  have cXw1_4 := Xw_4.out.cell (j := 1) rfl
  have cXw2_4 := Xw_4.out.cell (j := 2) rfl
  have cXw3_4 := Xw_4.out.cell (j := 3) rfl
  have ba := below_more (Below.refl w4.heap.size w4) (.cells #[.slice v4 l.length c4] 37)
  have hx : BlockIs (w4.alloc (.cells #[.slice v4 l.length c4] 37)) w4.heap.size 37 [.slice v4 l.length c4] := heap_alloc_new w4 _
  have B_4a := hid (below_via B_4.out ba)
  have XD_4a := hid (XD_4.out.on ba XD_4.out.lt)
  have Rw_4a := hid (Rw_4.out.on ba)
  have Xw_4a := hid (Xw_4.out.on ba Xw_4.out.lt)
  have Y4_4a := hid (Y4.out.on ba)
  have Xx_4a := hid hx
  have O4a := hid hx.lt
  clear ba hx B_4 XD_4 Rw_4 Xw_4 Y4 cXD0_4 cXw0_4 cXw1_4 cXw2_4 cXw3_4
  have cXD0_4a := XD_4a.out.cell (j := 0) rfl
  have cXw0_4a := Xw_4a.out.cell (j := 0) rfl
  have cXw1_4a := Xw_4a.out.cell (j := 1) rfl
  have cXw2_4a := Xw_4a.out.cell (j := 2) rfl
  have cXw3_4a := Xw_4a.out.cell (j := 3) rfl
  have cXx0_4a := Xx_4a.out.cell (j := 0) rfl
  go_wp2_with fail
  refine (CI.out v4 c4 _ Y4_4a.out.files (steps_on HT.out B_4a.out)).mono ?_
  rintro e w5 ⟨v5, c5, rfl, h5, b5⟩
  have O5 := hid b5.size
  have Rg := hid h5
  clear h5
  have B_5 := hid (below_via B_4a.out b5)
  have XD_5 := hid (XD_4a.out.on b5 XD_4a.out.lt)
  have Rw_5 := hid (Rw_4a.out.on b5)
  have Xw_5 := hid (Xw_4a.out.on b5 Xw_4a.out.lt)
  have Y4_5 := hid (Y4_4a.out.on b5)
  have Xx_5 := hid (Xx_4a.out.on b5 Xx_4a.out.lt)
  clear b5 B_4a XD_4a Rw_4a Xw_4a Y4_4a Xx_4a cXD0_4a cXw0_4a cXw1_4a cXw2_4a cXw3_4a cXx0_4a
  have cXD0_5 := XD_5.out.cell (j := 0) rfl
  have cXw0_5 := Xw_5.out.cell (j := 0) rfl
  have cXw1_5 := Xw_5.out.cell (j := 1) rfl
  have cXw2_5 := Xw_5.out.cell (j := 2) rfl
  have cXw3_5 := Xw_5.out.cell (j := 3) rfl
  have cXx0_5 := Xx_5.out.cell (j := 0) rfl
  have ba := below_more (Below.refl w5.heap.size w5) (.cells #[.int .i64 ix, .int .i64 tm, .slice v5 zs.length c5, .string bd] 24)
  have hx : BlockIs (w5.alloc (.cells #[.int .i64 ix, .int .i64 tm, .slice v5 zs.length c5, .string bd] 24)) w5.heap.size 24 [.int .i64 ix, .int .i64 tm, .slice v5 zs.length c5, .string bd] := heap_alloc_new w5 _
  have B_5a := hid (below_via B_5.out ba)
  have XD_5a := hid (XD_5.out.on ba XD_5.out.lt)
  have Rw_5a := hid (Rw_5.out.on ba)
  have Xw_5a := hid (Xw_5.out.on ba Xw_5.out.lt)
  have Y4_5a := hid (Y4_5.out.on ba)
  have Xx_5a := hid (Xx_5.out.on ba Xx_5.out.lt)
  have Rg_5a := hid (Rg.out.on ba)
  have Xg_5a := hid hx
  have O5a := hid hx.lt
  clear ba hx B_5 XD_5 Rw_5 Xw_5 Y4_5 Xx_5 Rg cXD0_5 cXw0_5 cXw1_5 cXw2_5 cXw3_5 cXx0_5
  have cXD0_5a := XD_5a.out.cell (j := 0) rfl
  have cXw0_5a := Xw_5a.out.cell (j := 0) rfl
  have cXw1_5a := Xw_5a.out.cell (j := 1) rfl
  have cXw2_5a := Xw_5a.out.cell (j := 2) rfl
  have cXw3_5a := Xw_5a.out.cell (j := 3) rfl
  have cXx0_5a := Xx_5a.out.cell (j := 0) rfl
  have cXg0_5a := Xg_5a.out.cell (j := 0) rfl
  have cXg1_5a := Xg_5a.out.cell (j := 1) rfl
  have cXg2_5a := Xg_5a.out.cell (j := 2) rfl
  have cXg3_5a := Xg_5a.out.cell (j := 3) rfl
  go_wp2_with fail
  refine (eqSnap_same ix tm v5 v3 zs c5 c3 bd (by omega) _ Rg_5a.out.ints Rw_5a.out.ints).mono ?_
  rintro e w6 ⟨rfl, b6⟩
  have O6 := hid b6.size
  have B_6 := hid (below_via B_5a.out b6)
  have XD_6 := hid (XD_5a.out.on b6 XD_5a.out.lt)
  have Rw_6 := hid (Rw_5a.out.on b6)
  have Xw_6 := hid (Xw_5a.out.on b6 Xw_5a.out.lt)
  have Y4_6 := hid (Y4_5a.out.on b6)
  have Xx_6 := hid (Xx_5a.out.on b6 Xx_5a.out.lt)
  have Rg_6 := hid (Rg_5a.out.on b6)
  have Xg_6 := hid (Xg_5a.out.on b6 Xg_5a.out.lt)
  clear b6 B_5a XD_5a Rw_5a Xw_5a Y4_5a Xx_5a Rg_5a Xg_5a cXD0_5a cXw0_5a cXw1_5a cXw2_5a cXw3_5a cXx0_5a cXg0_5a cXg1_5a cXg2_5a cXg3_5a
  have cXD0_6 := XD_6.out.cell (j := 0) rfl
  have cXw0_6 := Xw_6.out.cell (j := 0) rfl
  have cXw1_6 := Xw_6.out.cell (j := 1) rfl
  have cXw2_6 := Xw_6.out.cell (j := 2) rfl
  have cXw3_6 := Xw_6.out.cell (j := 3) rfl
  have cXx0_6 := Xx_6.out.cell (j := 0) rfl
  have cXg0_6 := Xg_6.out.cell (j := 0) rfl
  have cXg1_6 := Xg_6.out.cell (j := 1) rfl
  have cXg2_6 := Xg_6.out.cell (j := 2) rfl
  have cXg3_6 := Xg_6.out.cell (j := 3) rfl
  have CT : Hid (Calls Tryd.prog 14 #[.agg #[.slice ao l.length cap]] w6.drew fun e w7 => ∃ v7 c7, e = .returned (.agg #[.slice v7 l.length c7]) ∧ w7.cell? ⟨w4.heap.size, 0, none⟩ = some (.slice v4 l.length c4) ∧ Hid (Below w6.heap.size w6 w7 ∧ FilesAt w7 v7 l)) := by
    have hd : Below w6.heap.size w6 w6.drew := below_drewN (Below.refl _ _) 1
    refine Calls.mono (toDisk_o ao l cap hl2 w6.drew (HA.out.on (below_via B_6.out hd))) ?_
    rintro e w7 ⟨v7, c7, rfl, h7, b7⟩
    have h67 := below_via hd b7
    exact ⟨v7, c7, rfl, (Xx_6.out.on h67 Xx_6.out.lt).cell (j := 0) rfl, h67, h7.files⟩
  go_upto_region 10 with fail
  go_cut [45] (fun sa wx => sa = .bool false ∧ Hid (Below w6.heap.size w6 wx))
  case first =>
    go_region_with (first | (go_at_call 14; refine Calls.mono CT.out ?_; rintro e w7 ⟨v7, c7, rfl, y7, H7⟩) | (go_at_call 16; refine (eqDisk_o _ _ l _ _ hl2 _ ((Y4_6.out.on H7.out.1).files) H7.out.2).mono ?_; rintro e w8 ⟨rfl, b8⟩))
    all_goals
      go_wp2_with fail
      go_meet
      exact ⟨rfl, below_via H7.out.1 b8⟩
  case rest =>
  obtain ⟨w8, hwc⟩ : ∃ W, W = wc := ⟨_, rfl⟩
  subst hwc
  obtain ⟨rfl, HCX⟩ := hcut
  have bb := HCX.out
  have O8 := hid bb.size
  have B_8 := hid (below_via B_6.out bb)
  have XD_8 := hid (XD_6.out.on bb XD_6.out.lt)
  have Rw_8 := hid (Rw_6.out.on bb)
  have Xw_8 := hid (Xw_6.out.on bb Xw_6.out.lt)
  have Y4_8 := hid (Y4_6.out.on bb)
  have Xx_8 := hid (Xx_6.out.on bb Xx_6.out.lt)
  have Rg_8 := hid (Rg_6.out.on bb)
  have Xg_8 := hid (Xg_6.out.on bb Xg_6.out.lt)
  clear bb HCX CT B_6 XD_6 Rw_6 Xw_6 Y4_6 Xx_6 Rg_6 Xg_6 cXD0_6 cXw0_6 cXw1_6 cXw2_6 cXw3_6 cXx0_6 cXg0_6 cXg1_6 cXg2_6 cXg3_6
  have cXD0_8 := XD_8.out.cell (j := 0) rfl
  have cXw0_8 := Xw_8.out.cell (j := 0) rfl
  have cXw1_8 := Xw_8.out.cell (j := 1) rfl
  have cXw2_8 := Xw_8.out.cell (j := 2) rfl
  have cXw3_8 := Xw_8.out.cell (j := 3) rfl
  have cXx0_8 := Xx_8.out.cell (j := 0) rfl
  have cXg0_8 := Xg_8.out.cell (j := 0) rfl
  have cXg1_8 := Xg_8.out.cell (j := 1) rfl
  have cXg2_8 := Xg_8.out.cell (j := 2) rfl
  have cXg3_8 := Xg_8.out.cell (j := 3) rfl
  go_wp2_with fail
  refine (markDisk_o 1 v4 c4 l ((w3.alloc (.cells #[.int .i64 ix, .int .i64 tm, .slice v3 zs.length c3, .string bd] 24)).heap.size) (w4.heap.size) (by omega) (by omega) _ (by have := O0.out; have := O1.out; have := O2.out; have := O3.out; have := O3a.out; have := O4.out; have := O4a.out; have := O5.out; have := O5a.out; have := O6.out; have := O8.out; omega) Y4_8.out).mono ?_
  rintro e w9 ⟨rfl, hm9, kp, b9⟩
  have O9 := hid b9.size
  have B_9 := hid (B_8.out.trans (b9.mono (by have := O0.out; have := O1.out; have := O2.out; have := O3.out; have := O3a.out; have := O4.out; have := O4a.out; have := O5.out; have := O5a.out; have := O6.out; have := O8.out; have := O9.out; omega)))
  have XD_9 := hid (XD_8.out.kept kp (by have := O0.out; have := O1.out; have := O2.out; have := O3.out; have := O3a.out; have := O4.out; have := O4a.out; have := O5.out; have := O5a.out; have := O6.out; have := O8.out; have := O9.out; omega))
  have Rw_9 := hid (Rw_8.out.kept kp (by have := O0.out; have := O1.out; have := O2.out; have := O3.out; have := O3a.out; have := O4.out; have := O4a.out; have := O5.out; have := O5a.out; have := O6.out; have := O8.out; have := O9.out; omega))
  have Xw_9 := hid (Xw_8.out.kept kp (by have := O0.out; have := O1.out; have := O2.out; have := O3.out; have := O3a.out; have := O4.out; have := O4a.out; have := O5.out; have := O5a.out; have := O6.out; have := O8.out; have := O9.out; omega))
  have Xx_9 := hid (Xx_8.out.kept kp (by have := O0.out; have := O1.out; have := O2.out; have := O3.out; have := O3a.out; have := O4.out; have := O4a.out; have := O5.out; have := O5a.out; have := O6.out; have := O8.out; have := O9.out; omega))
  have Rg_9 := hid (Rg_8.out.kept kp (by have := O0.out; have := O1.out; have := O2.out; have := O3.out; have := O3a.out; have := O4.out; have := O4a.out; have := O5.out; have := O5a.out; have := O6.out; have := O8.out; have := O9.out; omega))
  have Xg_9 := hid (Xg_8.out.kept kp (by have := O0.out; have := O1.out; have := O2.out; have := O3.out; have := O3a.out; have := O4.out; have := O4a.out; have := O5.out; have := O5a.out; have := O6.out; have := O8.out; have := O9.out; omega))
  have M9 := hid hm9
  clear kp b9 hm9 Y4_8 B_8 XD_8 Rw_8 Xw_8 Xx_8 Rg_8 Xg_8 cXD0_8 cXw0_8 cXw1_8 cXw2_8 cXw3_8 cXx0_8 cXg0_8 cXg1_8 cXg2_8 cXg3_8
  obtain ⟨N9, hN9⟩ : ∃ N, 1 + 3 * l.length = N := ⟨_, rfl⟩
  have hNb9 : N9 ≤ 10000000 := by omega
  rw [hN9]
  have cXD0_9 := XD_9.out.cell (j := 0) rfl
  have cXw0_9 := Xw_9.out.cell (j := 0) rfl
  have cXw1_9 := Xw_9.out.cell (j := 1) rfl
  have cXw2_9 := Xw_9.out.cell (j := 2) rfl
  have cXw3_9 := Xw_9.out.cell (j := 3) rfl
  have cXx0_9 := Xx_9.out.cell (j := 0) rfl
  have cXg0_9 := Xg_9.out.cell (j := 0) rfl
  have cXg1_9 := Xg_9.out.cell (j := 1) rfl
  have cXg2_9 := Xg_9.out.cell (j := 2) rfl
  have cXg3_9 := Xg_9.out.cell (j := 3) rfl
  clear M9 hN9
  go_wp2_with fail
  refine (eqSnap_same ix tm v5 v3 zs c5 c3 bd (by omega) _ Rg_9.out.ints Rw_9.out.ints).mono ?_
  rintro e w10 ⟨rfl, b10⟩
  have O10 := hid b10.size
  have B_10 := hid (below_via B_9.out b10)
  have XD_10 := hid (XD_9.out.on b10 XD_9.out.lt)
  have Rw_10 := hid (Rw_9.out.on b10)
  have Xw_10 := hid (Xw_9.out.on b10 Xw_9.out.lt)
  have Xx_10 := hid (Xx_9.out.on b10 Xx_9.out.lt)
  have Rg_10 := hid (Rg_9.out.on b10)
  have Xg_10 := hid (Xg_9.out.on b10 Xg_9.out.lt)
  clear b10 B_9 XD_9 Rw_9 Xw_9 Xx_9 Rg_9 Xg_9 cXD0_9 cXw0_9 cXw1_9 cXw2_9 cXw3_9 cXx0_9 cXg0_9 cXg1_9 cXg2_9 cXg3_9
  have cXD0_10 := XD_10.out.cell (j := 0) rfl
  have cXw0_10 := Xw_10.out.cell (j := 0) rfl
  have cXw1_10 := Xw_10.out.cell (j := 1) rfl
  have cXw2_10 := Xw_10.out.cell (j := 2) rfl
  have cXw3_10 := Xw_10.out.cell (j := 3) rfl
  have cXx0_10 := Xx_10.out.cell (j := 0) rfl
  have cXg0_10 := Xg_10.out.cell (j := 0) rfl
  have cXg1_10 := Xg_10.out.cell (j := 1) rfl
  have cXg2_10 := Xg_10.out.cell (j := 2) rfl
  have cXg3_10 := Xg_10.out.cell (j := 3) rfl
  go_wp2_with fail
  refine (markSnap_o ix tm v5 c5 bd zs ((w4.alloc (.cells #[.slice v4 l.length c4] 37)).heap.size) (w5.heap.size) 1 (by omega) (by omega) _ (by have := O0.out; have := O1.out; have := O2.out; have := O3.out; have := O3a.out; have := O4.out; have := O4a.out; have := O5.out; have := O5a.out; have := O6.out; have := O8.out; have := O9.out; have := O10.out; constructor <;> omega) Rg_10.out).mono ?_
  rintro e w11 ⟨rfl, hm11, kp, b11⟩
  have O11 := hid b11.size
  have B_11 := hid (B_10.out.trans (b11.mono (by have := O0.out; have := O1.out; have := O2.out; have := O3.out; have := O3a.out; have := O4.out; have := O4a.out; have := O5.out; have := O5a.out; have := O6.out; have := O8.out; have := O9.out; have := O10.out; have := O11.out; omega)))
  have XD_11 := hid (XD_10.out.kept kp (by have := O0.out; have := O1.out; have := O2.out; have := O3.out; have := O3a.out; have := O4.out; have := O4a.out; have := O5.out; have := O5a.out; have := O6.out; have := O8.out; have := O9.out; have := O10.out; have := O11.out; omega))
  have Rw_11 := hid (Rw_10.out.kept kp (by have := O0.out; have := O1.out; have := O2.out; have := O3.out; have := O3a.out; have := O4.out; have := O4a.out; have := O5.out; have := O5a.out; have := O6.out; have := O8.out; have := O9.out; have := O10.out; have := O11.out; omega))
  have Xw_11 := hid (Xw_10.out.kept kp (by have := O0.out; have := O1.out; have := O2.out; have := O3.out; have := O3a.out; have := O4.out; have := O4a.out; have := O5.out; have := O5a.out; have := O6.out; have := O8.out; have := O9.out; have := O10.out; have := O11.out; omega))
  have Xx_11 := hid (Xx_10.out.kept kp (by have := O0.out; have := O1.out; have := O2.out; have := O3.out; have := O3a.out; have := O4.out; have := O4a.out; have := O5.out; have := O5a.out; have := O6.out; have := O8.out; have := O9.out; have := O10.out; have := O11.out; omega))
  have Xg_11 := hid (Xg_10.out.kept kp (by have := O0.out; have := O1.out; have := O2.out; have := O3.out; have := O3a.out; have := O4.out; have := O4a.out; have := O5.out; have := O5a.out; have := O6.out; have := O8.out; have := O9.out; have := O10.out; have := O11.out; omega))
  have M11 := hid hm11
  clear kp b11 hm11 Rg_10 B_10 XD_10 Rw_10 Xw_10 Xx_10 Xg_10 cXD0_10 cXw0_10 cXw1_10 cXw2_10 cXw3_10 cXx0_10 cXg0_10 cXg1_10 cXg2_10 cXg3_10
  obtain ⟨N11, hN11⟩ : ∃ N, 1 + zs.length = N := ⟨_, rfl⟩
  have hNb11 : N11 ≤ 10000000 := by omega
  rw [hN11]
  have cXD0_11 := XD_11.out.cell (j := 0) rfl
  have cXw0_11 := Xw_11.out.cell (j := 0) rfl
  have cXw1_11 := Xw_11.out.cell (j := 1) rfl
  have cXw2_11 := Xw_11.out.cell (j := 2) rfl
  have cXw3_11 := Xw_11.out.cell (j := 3) rfl
  have cXx0_11 := Xx_11.out.cell (j := 0) rfl
  have cXg0_11 := Xg_11.out.cell (j := 0) rfl
  have cXg1_11 := Xg_11.out.cell (j := 1) rfl
  have cXg2_11 := Xg_11.out.cell (j := 2) rfl
  have cXg3_11 := Xg_11.out.cell (j := 3) rfl
  have CH' := fun w h => heldSnap_any ix tm v5 zs.length c5 1 bd (by omega) (by omega) w h
  rw [hN11] at CH'
  have CH := hid CH'
  clear CH' hN11
  go_wp2_with fail
  refine (CH.out _ M11.out).mono ?_
  rintro e w12 ⟨rfl, b12⟩
  have O12 := hid b12.size
  have B_12 := hid (below_via B_11.out b12)
  have XD_12 := hid (XD_11.out.on b12 XD_11.out.lt)
  have Rw_12 := hid (Rw_11.out.on b12)
  have Xw_12 := hid (Xw_11.out.on b12 Xw_11.out.lt)
  have Xx_12 := hid (Xx_11.out.on b12 Xx_11.out.lt)
  have Xg_12 := hid (Xg_11.out.on b12 Xg_11.out.lt)
  have M_12 := hid (M11.out.on b12)
  clear b12 B_11 XD_11 Rw_11 Xw_11 Xx_11 Xg_11 M11 cXD0_11 cXw0_11 cXw1_11 cXw2_11 cXw3_11 cXx0_11 cXg0_11 cXg1_11 cXg2_11 cXg3_11
  have cXD0_12 := XD_12.out.cell (j := 0) rfl
  have cXw0_12 := Xw_12.out.cell (j := 0) rfl
  have cXw1_12 := Xw_12.out.cell (j := 1) rfl
  have cXw2_12 := Xw_12.out.cell (j := 2) rfl
  have cXw3_12 := Xw_12.out.cell (j := 3) rfl
  have cXx0_12 := Xx_12.out.cell (j := 0) rfl
  have cXg0_12 := Xg_12.out.cell (j := 0) rfl
  have cXg1_12 := Xg_12.out.cell (j := 1) rfl
  have cXg2_12 := Xg_12.out.cell (j := 2) rfl
  have cXg3_12 := Xg_12.out.cell (j := 3) rfl
  go_wp2_with fail
  refine (toDisk_o ao l cap hl2 _ (HA.out.on B_12.out)).mono ?_
  rintro e w13 ⟨v13, c13, rfl, h13, b13⟩
  have O13 := hid b13.size
  have Y13 := hid h13
  clear h13
  have B_13 := hid (below_via B_12.out b13)
  have XD_13 := hid (XD_12.out.on b13 XD_12.out.lt)
  have Rw_13 := hid (Rw_12.out.on b13)
  have Xw_13 := hid (Xw_12.out.on b13 Xw_12.out.lt)
  have Xx_13 := hid (Xx_12.out.on b13 Xx_12.out.lt)
  have Xg_13 := hid (Xg_12.out.on b13 Xg_12.out.lt)
  have M_13 := hid (M_12.out.on b13)
  clear b13 B_12 XD_12 Rw_12 Xw_12 Xx_12 Xg_12 M_12 cXD0_12 cXw0_12 cXw1_12 cXw2_12 cXw3_12 cXx0_12 cXg0_12 cXg1_12 cXg2_12 cXg3_12
  have cXD0_13 := XD_13.out.cell (j := 0) rfl
  have cXw0_13 := Xw_13.out.cell (j := 0) rfl
  have cXw1_13 := Xw_13.out.cell (j := 1) rfl
  have cXw2_13 := Xw_13.out.cell (j := 2) rfl
  have cXw3_13 := Xw_13.out.cell (j := 3) rfl
  have cXx0_13 := Xx_13.out.cell (j := 0) rfl
  have cXg0_13 := Xg_13.out.cell (j := 0) rfl
  have cXg1_13 := Xg_13.out.cell (j := 1) rfl
  have cXg2_13 := Xg_13.out.cell (j := 2) rfl
  have cXg3_13 := Xg_13.out.cell (j := 3) rfl
  go_wp2_with fail
  refine (CI.out v13 c13 _ Y13.out.files (steps_on HT.out B_13.out)).mono ?_
  rintro e w14 ⟨v14, c14, rfl, h14, b14⟩
  have O14 := hid b14.size
  have Rh := hid h14
  clear h14
  have B_14 := hid (below_via B_13.out b14)
  have XD_14 := hid (XD_13.out.on b14 XD_13.out.lt)
  have Rw_14 := hid (Rw_13.out.on b14)
  have Xw_14 := hid (Xw_13.out.on b14 Xw_13.out.lt)
  have Xx_14 := hid (Xx_13.out.on b14 Xx_13.out.lt)
  have Xg_14 := hid (Xg_13.out.on b14 Xg_13.out.lt)
  have M_14 := hid (M_13.out.on b14)
  have Y13_14 := hid (Y13.out.on b14)
  clear b14 B_13 XD_13 Rw_13 Xw_13 Xx_13 Xg_13 M_13 Y13 cXD0_13 cXw0_13 cXw1_13 cXw2_13 cXw3_13 cXx0_13 cXg0_13 cXg1_13 cXg2_13 cXg3_13
  have cXD0_14 := XD_14.out.cell (j := 0) rfl
  have cXw0_14 := Xw_14.out.cell (j := 0) rfl
  have cXw1_14 := Xw_14.out.cell (j := 1) rfl
  have cXw2_14 := Xw_14.out.cell (j := 2) rfl
  have cXw3_14 := Xw_14.out.cell (j := 3) rfl
  have cXx0_14 := Xx_14.out.cell (j := 0) rfl
  have cXg0_14 := Xg_14.out.cell (j := 0) rfl
  have cXg1_14 := Xg_14.out.cell (j := 1) rfl
  have cXg2_14 := Xg_14.out.cell (j := 2) rfl
  have cXg3_14 := Xg_14.out.cell (j := 3) rfl
  clear Y13_14
  have ba := below_more (Below.refl w14.heap.size w14) (.cells #[.int .i64 ix, .int .i64 tm, .slice v14 zs.length c14, .string bd] 24)
  have hx : BlockIs (w14.alloc (.cells #[.int .i64 ix, .int .i64 tm, .slice v14 zs.length c14, .string bd] 24)) w14.heap.size 24 [.int .i64 ix, .int .i64 tm, .slice v14 zs.length c14, .string bd] := heap_alloc_new w14 _
  have B_14a := hid (below_via B_14.out ba)
  have XD_14a := hid (XD_14.out.on ba XD_14.out.lt)
  have Rw_14a := hid (Rw_14.out.on ba)
  have Xw_14a := hid (Xw_14.out.on ba Xw_14.out.lt)
  have Xx_14a := hid (Xx_14.out.on ba Xx_14.out.lt)
  have Xg_14a := hid (Xg_14.out.on ba Xg_14.out.lt)
  have M_14a := hid (M_14.out.on ba)
  have Rh_14a := hid (Rh.out.on ba)
  have Xh_14a := hid hx
  have O14a := hid hx.lt
  clear ba hx B_14 XD_14 Rw_14 Xw_14 Xx_14 Xg_14 M_14 Rh cXD0_14 cXw0_14 cXw1_14 cXw2_14 cXw3_14 cXx0_14 cXg0_14 cXg1_14 cXg2_14 cXg3_14
  have cXD0_14a := XD_14a.out.cell (j := 0) rfl
  have cXw0_14a := Xw_14a.out.cell (j := 0) rfl
  have cXw1_14a := Xw_14a.out.cell (j := 1) rfl
  have cXw2_14a := Xw_14a.out.cell (j := 2) rfl
  have cXw3_14a := Xw_14a.out.cell (j := 3) rfl
  have cXx0_14a := Xx_14a.out.cell (j := 0) rfl
  have cXg0_14a := Xg_14a.out.cell (j := 0) rfl
  have cXg1_14a := Xg_14a.out.cell (j := 1) rfl
  have cXg2_14a := Xg_14a.out.cell (j := 2) rfl
  have cXg3_14a := Xg_14a.out.cell (j := 3) rfl
  have cXh0_14a := Xh_14a.out.cell (j := 0) rfl
  have cXh1_14a := Xh_14a.out.cell (j := 1) rfl
  have cXh2_14a := Xh_14a.out.cell (j := 2) rfl
  have cXh3_14a := Xh_14a.out.cell (j := 3) rfl
  go_wp2_with fail
  refine (eqSnap_same ix tm v14 v3 zs c14 c3 bd (by omega) _ Rh_14a.out.ints Rw_14a.out.ints).mono ?_
  rintro e w15 ⟨rfl, b15⟩
  have O15 := hid b15.size
  have B_15 := hid (below_via B_14a.out b15)
  have XD_15 := hid (XD_14a.out.on b15 XD_14a.out.lt)
  have Rw_15 := hid (Rw_14a.out.on b15)
  have Xw_15 := hid (Xw_14a.out.on b15 Xw_14a.out.lt)
  have Xx_15 := hid (Xx_14a.out.on b15 Xx_14a.out.lt)
  have Xg_15 := hid (Xg_14a.out.on b15 Xg_14a.out.lt)
  have M_15 := hid (M_14a.out.on b15)
  have Rh_15 := hid (Rh_14a.out.on b15)
  have Xh_15 := hid (Xh_14a.out.on b15 Xh_14a.out.lt)
  clear b15 B_14a XD_14a Rw_14a Xw_14a Xx_14a Xg_14a M_14a Rh_14a Xh_14a cXD0_14a cXw0_14a cXw1_14a cXw2_14a cXw3_14a cXx0_14a cXg0_14a cXg1_14a cXg2_14a cXg3_14a cXh0_14a cXh1_14a cXh2_14a cXh3_14a
  have cXD0_15 := XD_15.out.cell (j := 0) rfl
  have cXw0_15 := Xw_15.out.cell (j := 0) rfl
  have cXw1_15 := Xw_15.out.cell (j := 1) rfl
  have cXw2_15 := Xw_15.out.cell (j := 2) rfl
  have cXw3_15 := Xw_15.out.cell (j := 3) rfl
  have cXx0_15 := Xx_15.out.cell (j := 0) rfl
  have cXg0_15 := Xg_15.out.cell (j := 0) rfl
  have cXg1_15 := Xg_15.out.cell (j := 1) rfl
  have cXg2_15 := Xg_15.out.cell (j := 2) rfl
  have cXg3_15 := Xg_15.out.cell (j := 3) rfl
  have cXh0_15 := Xh_15.out.cell (j := 0) rfl
  have cXh1_15 := Xh_15.out.cell (j := 1) rfl
  have cXh2_15 := Xh_15.out.cell (j := 2) rfl
  have cXh3_15 := Xh_15.out.cell (j := 3) rfl
  go_wp2_with fail
  refine (CH.out _ M_15.out).mono ?_
  rintro e w16 ⟨rfl, b16⟩
  have O16 := hid b16.size
  have B_16 := hid (below_via B_15.out b16)
  have XD_16 := hid (XD_15.out.on b16 XD_15.out.lt)
  have Rw_16 := hid (Rw_15.out.on b16)
  have Xw_16 := hid (Xw_15.out.on b16 Xw_15.out.lt)
  have Xx_16 := hid (Xx_15.out.on b16 Xx_15.out.lt)
  have Xg_16 := hid (Xg_15.out.on b16 Xg_15.out.lt)
  have M_16 := hid (M_15.out.on b16)
  have Rh_16 := hid (Rh_15.out.on b16)
  have Xh_16 := hid (Xh_15.out.on b16 Xh_15.out.lt)
  clear b16 B_15 XD_15 Rw_15 Xw_15 Xx_15 Xg_15 M_15 Rh_15 Xh_15 cXD0_15 cXw0_15 cXw1_15 cXw2_15 cXw3_15 cXx0_15 cXg0_15 cXg1_15 cXg2_15 cXg3_15 cXh0_15 cXh1_15 cXh2_15 cXh3_15
  have cXD0_16 := XD_16.out.cell (j := 0) rfl
  have cXw0_16 := Xw_16.out.cell (j := 0) rfl
  have cXw1_16 := Xw_16.out.cell (j := 1) rfl
  have cXw2_16 := Xw_16.out.cell (j := 2) rfl
  have cXw3_16 := Xw_16.out.cell (j := 3) rfl
  have cXx0_16 := Xx_16.out.cell (j := 0) rfl
  have cXg0_16 := Xg_16.out.cell (j := 0) rfl
  have cXg1_16 := Xg_16.out.cell (j := 1) rfl
  have cXg2_16 := Xg_16.out.cell (j := 2) rfl
  have cXg3_16 := Xg_16.out.cell (j := 3) rfl
  have cXh0_16 := Xh_16.out.cell (j := 0) rfl
  have cXh1_16 := Xh_16.out.cell (j := 1) rfl
  have cXh2_16 := Xh_16.out.cell (j := 2) rfl
  have cXh3_16 := Xh_16.out.cell (j := 3) rfl
  go_wp2
  go_ret
  exact ⟨rfl, B_16.out⟩

theorem own : ownKnob Tryd.prog.godebug = none := by kernel_rfl
theorem laidOut : laidOutB Tryd.prog = true := by kernel_rfl
theorem rowed : varsRowed Tryd.prog Rows.fnExactNewestSnapSpec.vars = true := by kernel_rfl
/-- what the row's list gives: what loop.example/g00232/impl.fourSteps holds -/
theorem table0 {W : World} (h : laidMetH Tryd.prog Rows.fnExactNewestSnapRow.laid W) : Lib.TabIs Tryd.prog W "loop.example/g00232/impl.fourSteps" .u32 stepsTab := by
  have h1 : laidMet Tryd.prog Rows.fnExactNewestSnapRow.laid W := h
  unfold Rows.fnExactNewestSnapRow at h1
  have h2 := h1
  rw [show (Rows.laid_loop_example_g00232_impl_fourSteps : DataW Unit) = Lib.tabData .u32 stepsTab by kernel_rfl] at h2
  exact Lib.tabIs_of_head (show Tryd.prog.globalNamed "loop.example/g00232/impl.fourSteps" = some 0 by kernel_rfl) (show (Tryd.prog.globals[0]?).map (·.type) = some 130 by kernel_rfl) Tryd.underlying130 Tryd.underlying123 (show Tryd.prog.cellsOf 123 = 1 by kernel_rfl) (show Tryd.prog.cellsOf 130 = 16 by kernel_rfl) h2
set_option maxRecDepth 1000000 in
theorem contract (H : Type) (enc : TypeId × Value → H) (W : World) (base : Nat) (args : Array Value) (ds gs : List (DataW H)) (before : List MemPlace)
    (hval : ∀ (j : Nat) t v, Tryd.f4.params[j]? = some t → args[j]? = some v → Value.okWide Tryd.prog W .any base t v)
    (hW : DataW.Whole enc Tryd.prog Tryd.f4.params.toList Rows.fnExactNewestSnapSpec.vars false W args.toList ds gs before) (hL : laidMetH Tryd.prog Rows.fnExactNewestSnapRow.laid W) :
    Calls Tryd.prog 4 args W fun e W' => ∃ v, e = .returned v ∧ Rows.fnExactNewestSnapSpec.post enc Tryd.prog Tryd.f4 false true false false W args v W' := by
  have hW' := hW
  obtain ⟨p, q, hA0, hV0, rfl, hfz, hnd⟩ := hW
  have hV : DataW.TrodVars enc Tryd.prog W (fun _ => true) Rows.fnExactNewestSnapSpec.vars gs q := hV0
  have hA : DataW.TrodAll enc Tryd.prog W 0 (fun _ => true) true Tryd.f4.params.toList args.toList ds p := hA0
  rw [Tryd.params4] at hA hval
  obtain ⟨v0, vs0, d0, ds0, p0, q0, hargs0, rfl, rfl, h0, r0⟩ := trodAll_cons hA
  obtain ⟨rfl, rfl, rfl⟩ := trodAll_nil r0
  obtain rfl : args = #[v0] := by cases args; simp_all
  have k0 := h0
  have lt0 : ∀ x ∈ p0, x.block < W.heap.size := by obtain ⟨m, hm⟩ := k0; exact DataW.trod_lt m _ _ _ hm
  obtain ⟨a0, l0, cap0, rfl, hc0, hm0, hat0, hfit0, hkept0⟩ := open_disk (hval 0 32 v0 rfl rfl) h0
  clear hA0 hV0
  have hgs : gs.length = 1 := by
    have := hV
    clear hV hW' hL
    match gs, this with
    | [_], _ => rfl
  match gs, hgs, hV, hW' with
  | [g0], _, hV, hW' =>
    refine (walk a0 l0 cap0 (Nat.le_trans hc0 hm0) hfit0 hkept0 W hat0 (table0 hL)).mono fun e W' ⟨he, bel⟩ => ?_
    subst he
    exact ⟨_, rfl, _, _, _, [], _, _, hW', trodAll_mk1 (shut_bool Tryd.underlying4 _), trodAll_cons_mk (Below.trod laidOut (by kernel_rfl) (of_decide_eq_true (by kernel_rfl)) k0 bel lt0) (trodAll_mk0), Below.trodVars laidOut bel rowed hV, bel.frame _, fun h => by cases h⟩

def put (cs : Array Value) : Obj → Obj
  | .cells _ t frozen => .cells cs t frozen
  | o => o

/-- a world for the witness: the tables hold what their initialisers lay -/
def laidWorld (w : World) : World := { w with heap := (w.heap.modify 0 (put (([0, 1166650509, 2333301018, 3466261911, 3189058079, 4221339282, 889615109, 1888477064, 3558460437, 2442158232, 1594529039, 444807554, 1779230218, 797264519, 3776954128, 2761298845] : List Int).map (Value.int .u32)).toArray)) }
theorem laid_met (os : Os) : laidMet Tryd.prog Rows.fnExactNewestSnapRow.laid ((laidWorld (World.holding Tryd.prog os ⟨#[], #[], []⟩)).forCall (fun _ _ => 0) ⟨#[], #[.agg #[.slice none 0 0]], []⟩).memory :=
  laidMet_of_run' 8 (by kernel_rfl) (by kernel_rfl)
theorem reads (os : Os) {H : Type} (enc : TypeId × Value → H) : ∃ places, DataW.whole enc Tryd.prog ((laidWorld (World.holding Tryd.prog os ⟨#[], #[], []⟩)).forCall (fun _ _ => 0) ⟨#[], #[.agg #[.slice none 0 0]], []⟩).memory Tryd.f4.params.toList Rows.fnExactNewestSnapSpec.vars false #[Value.agg #[.slice none 0 0]].toList 8 = some ([.agg [.nil]], [Rows.laid_loop_example_g00232_impl_fourSteps], places) :=
  ⟨(List.range 16).map (MemPlace.cell 0), by kernel_rfl⟩

set_option maxRecDepth 1000000 in
theorem lifted (os : Os) (started : os.Started) (H : Type) (enc : TypeId × Value → H) (F : Stop.Interp) :
    ReturnsInHanded {} Tryd.checked os 4 .any ((OpenSpec.ofChange Rows.fnExactNewestSnapSpec).preRow enc Tryd.prog Tryd.f4 Rows.fnExactNewestSnapRow.domain false Rows.fnExactNewestSnapRow.laid) (((OpenSpec.ofChange Rows.fnExactNewestSnapSpec).at F).post enc Tryd.prog Tryd.f4 false true false false) := by
  obtain ⟨places, hx⟩ := reads os enc
  refine returnsInHanded_of_row (C := Tryd.checked) (s := OpenSpec.ofChange Rows.fnExactNewestSnapSpec) own started (by kernel_rfl) Tryd.func4
    (witness_row_at (enc := enc) (C := Tryd.checked) false (laidWorld (World.holding Tryd.prog os ⟨#[], #[], []⟩)) #[.agg #[.slice none 0 0]] rfl (by kernel_rfl) (by kernel_rfl) (by kernel_rfl)
      (OpenSpec.preRow_of_cond 8 hx (by kernel_rfl) (fun k hk => by cases hk) (by kernel_rfl) (laid_met os))) ?_
  intro W base args ds gs before hval hW _ _ _ hL _ _
  exact contract H enc W base args ds gs before hval hW hL

theorem said : Rows.FnExactNewestSnapSaid :=
  OpenClaim.holds_of_cond 4 Tryd.f4 rfl rfl rfl rfl rfl rfl rfl ⟨rfl, rfl, rfl, rfl, rfl⟩ rfl rfl rfl rfl rfl (by kernel_rfl) Tryd.func4 (by kernel_rfl)
    (of_decide_eq_true (by kernel_rfl)) (by unfold Func.isWrapper; first | (rw [if_pos (by decide +kernel)]; kernel_rfl) | (rw [if_neg (by decide +kernel)]; exact ⟨rfl, rfl⟩))
    (fun os started H enc _ F => by rw [OpenClaim.pre_eq_preRow]; exact lifted os started H enc F)

theorem plain (f : FuncId) (fn : Func) (hf : Tryd.pinned.checked.prog.funcNamed "loop.example/g00232/laws.FnExactNewestSnap" = some f) (hfn : Tryd.pinned.checked.prog.funcs[f]? = some fn) :
    true = Tryd.pinned.checked.prog.looks [] ∧ ∀ (j : Nat) t, fn.params[j]? = some t → Tryd.pinned.checked.prog.wantsStandIn t = false := by
  obtain rfl : f = 4 := Option.some.inj ((show Tryd.prog.funcNamed "loop.example/g00232/laws.FnExactNewestSnap" = some 4 by kernel_rfl).symm.trans hf) |>.symm
  obtain rfl : fn = Tryd.f4 := (Option.some.inj (Tryd.func4.symm.trans hfn)).symm
  refine ⟨by kernel_rfl, fun j t ht => ?_⟩
  rw [Tryd.params4] at ht
  obtain rfl : t = 32 := by simpa using Array.mem_of_getElem? ht
  exact (show Tryd.prog.wantsStandIn 32 = false by kernel_rfl)

theorem card : Rows.FnExactNewestSnapCardSaid :=
  Claim7.holds_tied_plain_at .later [] _ _ _ _ said (fun _ h => by cases h) (by kernel_rfl) (fun _ h => by cases h) fnExactNewestSnap_row_tie rfl ⟨rfl, rfl⟩ (by kernel_rfl) rfl plain (by kernel_rfl)
end Go.Proofs.YtggogiepebnckaaDoor.fnExactNewestSnap
