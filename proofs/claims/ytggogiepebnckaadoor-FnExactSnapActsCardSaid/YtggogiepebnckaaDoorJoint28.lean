/-
  The walk of spec.SnapText: what it answers.
  The walks of impl.nameOk, impl.fileOk, impl.DiskOk: what they answer.
-/
import Derived.Test.YtggogiepebnckaaDoorJoint1
import Derived.Test.YtggogiepebnckaaDoorJoint21
import Derived.Test.YtggogiepebnckaaDoorJoint23
import Derived.Test.YtggogiepebnckaaDoorJoint25
import Derived.Test.YtggogiepebnckaaDoorJoint27
import Derived.Deep.QuietTactic
import Derived.BigQuiet
import Derived.Lib.QuietBelow
import Derived.Laws.Concat
import Derived.Laws.Cover1
namespace Go.Proofs.YtggogiepebnckaaDoor
open Go.RowKit Go.Sort

set_option maxRecDepth 1000000 in
set_option maxHeartbeats 4000000 in
theorem specSnapText_any (ix tm : Int) (ao : Option Addr) (zs : List Int) (cap : Nat) (bd : ByteArray) (hl : zs.length ≤ 1048576) (hbd : bd.size ≤ 1048576) (w : World) (hz : IntsAt w ao zs) :
    Calls Tryd.prog 31 #[snapV ix tm (.slice ao zs.length cap) bd] w fun e w' => e = .returned (.tuple #[.string (snapText ix tm zs bd).1, .bool (snapText ix tm zs bd).2]) ∧ Below w.heap.size w w' := by
  have HZ := hid hz
  have HB := hid (below_more (Below.refl w.heap.size w) (.cells #[.int .i64 ix, .int .i64 tm, .slice ao zs.length cap, .string bd] 24))
  have hx : BlockIs (w.alloc (.cells #[.int .i64 ix, .int .i64 tm, .slice ao zs.length cap, .string bd] 24)) w.heap.size 24 [.int .i64 ix, .int .i64 tm, .slice ao zs.length cap, .string bd] := heap_alloc_new w _
  obtain ⟨W, hW⟩ : ∃ W, w.alloc (.cells #[.int .i64 ix, .int .i64 tm, .slice ao zs.length cap, .string bd] 24) = W := ⟨_, rfl⟩
  rw [hW] at HB hx
  have HX := hid hx
  have c2 := hx.cell (j := 2) rfl
  clear hx hz
  go_enter Tryd.func31, Tryd.ntmps31
  go_wp2_with fail
  refine (specConfText_any ao zs cap hl _ (HZ.out.on HB.out)).mono ?_
  rintro e w2 ⟨rfl, b1⟩
  have X2 := hid (HX.out.on b1 HX.out.lt)
  have B2 := hid (below_via HB.out b1)
  have d0 := X2.out.cell (j := 0) rfl
  have d1 := X2.out.cell (j := 1) rfl
  have d3 := X2.out.cell (j := 3) rfl
  clear b1 HX HB c2 hW
  cases hC : confOk zs with
  | false =>
    have HR := hid (snapText_conf (ix := ix) (tm := tm) (bd := bd) hC)
    rw [confText_no hC]
    go_wp2
    go_ret2
    exact ⟨by rw [HR.out]; rfl, B2.out⟩
  | true =>
    rw [confText_yes hC]
    have hlen := confOk_len hC
    have hcs := confBytes_size zs
    obtain ⟨ct, hct⟩ : ∃ c : ByteArray, (⟨(confBytes zs).toArray⟩ : ByteArray) = c := ⟨_, rfl⟩
    rw [hct] at hcs ⊢
    have HCT := hid hct
    have hct4 : ct.size ≤ 4 := by omega
    clear hct hcs
    go_wp2_with fail
    refine (l01In_any ix 0 1000000 _).mono ?_
    rintro e w3 ⟨rfl, hw⟩
    rw [hw]
    clear hw w3
    cases hI : within ix 0 1000000 with
    | false =>
      have HR := hid (snapText_ix (ix := ix) (tm := tm) (zs := zs) (bd := bd) hI)
      clear hI
      go_wp2
      go_ret2
      exact ⟨by rw [HR.out]; rfl, B2.out⟩
    | true =>
      go_wp2_with fail
      refine (l01In_any tm 0 100000 _).mono ?_
      rintro e w3 ⟨rfl, hw⟩
      rw [hw]
      clear hw w3
      cases hM : within tm 0 100000 with
      | false =>
        have HR := hid (snapText_tm (ix := ix) (tm := tm) (zs := zs) (bd := bd) hM)
        clear hI hM
        go_wp2
        go_ret2
        exact ⟨by rw [HR.out]; rfl, B2.out⟩
      | true =>
        obtain ⟨i0, i1⟩ := within_iff.1 hI
        obtain ⟨t0, t1⟩ := within_iff.1 hM
        clear hI hM
        rcases Nat.lt_or_ge 20000 bd.size with hbig | hsm
        · have HR := hid (snapText_big (ix := ix) (tm := tm) (zs := zs) hbig)
          have h20 : (20000 : Int) < (bd.size : Int) := by omega
          go_wp2
          go_ret2
          exact ⟨by rw [HR.out]; rfl, B2.out⟩
        have h20 : ¬ (20000 : Int) < (bd.size : Int) := by omega
        obtain ⟨i, rfl⟩ : ∃ i : Nat, ix = i := ⟨ix.toNat, by omega⟩
        obtain ⟨t, rfl⟩ : ∃ t : Nat, tm = t := ⟨tm.toNat, by omega⟩
        have cI := fun d os => Calls.regrown_of (w := w2) (d := d) (os := os) (l01Var_any i (by omega) _)
        have cT := fun d os => Calls.regrown_of (w := w2) (d := d) (os := os) (l01Var_any t (by omega) _)
        have cC := fun d os => Calls.regrown_of (w := w2) (d := d) (os := os) (l05Short_any ct (by omega) _)
        have cB := fun d os => Calls.regrown_of (w := w2) (d := d) (os := os) (l05Short_any bd hbd _)
        have hin : Hid (snapIn i t zs bd = ⟨(vb i).toArray⟩ ++ ⟨(vb t).toArray⟩ ++ shortT ct ++ shortT bd) := by show _ = _; rw [snapIn, HCT.out]
        have hi3 := vb_short (show i ≤ 1000000 by omega)
        have ht3 := vb_short (show t ≤ 1000000 by omega)
        have hct3 := shortT_size ct
        have hcv := vb_short (show ct.size ≤ 1000000 by omega)
        have hST := shortT_size bd
        have hvl := vb_short (show bd.size ≤ 1000000 by omega)
        obtain ⟨V, hV⟩ : ∃ c : ByteArray, (⟨(vb i).toArray⟩ : ByteArray) = c := ⟨_, rfl⟩
        obtain ⟨T, hT⟩ : ∃ c : ByteArray, (⟨(vb t).toArray⟩ : ByteArray) = c := ⟨_, rfl⟩
        obtain ⟨SC, hSC⟩ : ∃ c : ByteArray, shortT ct = c := ⟨_, rfl⟩
        obtain ⟨SB, hSB⟩ : ∃ c : ByteArray, shortT bd = c := ⟨_, rfl⟩
        have hVs : V.size ≤ 3 := by rw [← hV]; show (vb i).toArray.size ≤ _; rw [List.size_toArray]; exact hi3
        have hTs : T.size ≤ 3 := by rw [← hT]; show (vb t).toArray.size ≤ _; rw [List.size_toArray]; exact ht3
        rw [hSC] at hct3 cC
        rw [hSB] at hST cB
        rw [hV] at cI
        rw [hT] at cT
        rw [hV, hT, hSC, hSB] at hin
        clear hV hT hSC hSB hi3 ht3
        obtain ⟨A1, q1⟩ : ∃ c : ByteArray, V ++ T = c := ⟨_, rfl⟩
        have z1 : A1.size = V.size + T.size := by rw [← q1, ByteArray.size_append]
        obtain ⟨A2, q2⟩ : ∃ c : ByteArray, A1 ++ SC = c := ⟨_, rfl⟩
        have z2 : A2.size = A1.size + SC.size := by rw [← q2, ByteArray.size_append]
        obtain ⟨A3, q3⟩ : ∃ c : ByteArray, A2 ++ SB = c := ⟨_, rfl⟩
        have z3 : A3.size = A2.size + SB.size := by rw [← q3, ByteArray.size_append]
        have hs1 : ∀ w, (Op.stringOp .add V T).run Tryd.prog w = .ok (.string A1) w := fun w => by rw [run_string_add_sum w _ _ (by omega), q1]
        have hs2 : ∀ w, (Op.stringOp .add A1 SC).run Tryd.prog w = .ok (.string A2) w := fun w => by rw [run_string_add_sum w _ _ (by omega), q2]
        have hs3 : ∀ w, (Op.stringOp .add A2 SB).run Tryd.prog w = .ok (.string A3) w := fun w => by rw [run_string_add_sum w _ _ (by omega), q3]
        have HI : Hid (snapIn i t zs bd = A3) := by show _ = _; rw [hin.out, q1, q2, q3]
        have hA3 : A3.size ≤ 100000 := by omega
        clear hin q1 q2 q3 z1 z2 z3 hST hvl hct3 hcv hVs hTs
        have hok : Hid (A3.size ≤ 19996 → snapText i t zs bd = (sealOf A3, true)) := fun h => by
          have := snapText_yes (ix := i) (tm := t) (zs := zs) (bd := bd) (snapOk_iff.2 ⟨hC, ⟨⟨by omega, by omega⟩, by omega, by omega⟩, by rw [Int.toNat_natCast, Int.toNat_natCast, HI.out]; exact h⟩)
          rw [this, Int.toNat_natCast, Int.toNat_natCast, HI.out]
        have hno : Hid (19996 < A3.size → snapText i t zs bd = (ByteArray.empty, false)) := fun h => snapText_long (by rw [Int.toNat_natCast, Int.toNat_natCast, HI.out]; exact h)
        clear HI hC hlen HCT
        have CI := hid cI
        have CT := hid cT
        have CC := hid cC
        have CB := hid cB
        have D0 := cell_regrown d0
        have D1 := cell_regrown d1
        have D3 := cell_regrown d3
        clear cI cT cC cB
        go_wp2
        refine wp_region_quiet_below (by kernel_rfl) (by kernel_rfl) ?_
        clear d0 d1 d3
        repeat (first
          | go_big_quiet_step (first | (go_at_call 66; with_reducible exact CI.out _ _) | (go_at_call 66; with_reducible exact CT.out _ _) | (go_at_call 67; with_reducible exact CC.out _ _) | (go_at_call 67; with_reducible exact CB.out _ _) | fail)
          | quiet_step (first | (go_at_call 66; with_reducible exact CI.out _ _) | (go_at_call 66; with_reducible exact CT.out _ _) | (go_at_call 67; with_reducible exact CC.out _ _) | (go_at_call 67; with_reducible exact CB.out _ _) | fail))
        refine wpQuiet_nil ?_
        intro _ hw'
        obtain ⟨⟨dq, osq⟩, hw''⟩ := hw'
        subst hw''
        have B3 : Hid (Below w.heap.size w (grow (redrawn w2 dq) osq)) := below_via B2.out (below_regrown w2 dq osq)
        generalize grow (redrawn w2 dq) osq = w3 at B3 ⊢
        clear D0 D1 D3 CI CT CC CB B2 X2 hs1 hs2 hs3
        rcases Nat.lt_or_ge 19996 A3.size with hb4 | hb4
        · have HR := hid (hno.out hb4)
          have h21 : (20000 : Int) < (A3.size : Int) + 4 := by omega
          clear hno hok
          go_wp2
          go_ret2
          exact ⟨by rw [HR.out]; rfl, B3.out⟩
        · have HR := hid (hok.out hb4)
          have h21 : ¬ (20000 : Int) < (A3.size : Int) + 4 := by omega
          clear hno hok
          go_wp2_with fail
          refine (specSealed_yes A3 (by omega) _).mono ?_
          rintro e w6 ⟨rfl, b6⟩
          rw [show (A3 ++ ⟨(four (sumOf A3.data.toList)).toArray⟩ : ByteArray) = sealOf A3 from rfl]
          have B6 := hid (below_via B3.out b6)
          clear b6 B3
          obtain ⟨Z, hZ⟩ : ∃ c : ByteArray, sealOf A3 = c := ⟨_, rfl⟩
          rw [hZ] at HR ⊢
          clear hZ
          go_wp2
          go_ret2
          exact ⟨by rw [HR.out]; rfl, B6.out⟩
end Go.Proofs.YtggogiepebnckaaDoor

namespace Go.Proofs.YtggogiepebnckaaDoor
open Go.RowKit Go.Sort

set_option maxRecDepth 1000000 in
theorem implNameOk_any (s : ByteArray) (w : World) :
    Calls Tryd.prog 97 #[.string s] w fun e w' => e = .returned (.bool (nameOk s)) ∧ w' = w := by
  unfold nameOk within
  by_cases h1 : (1 : Int) ≤ (s.size : Int)
  · by_cases h2 : (s.size : Int) ≤ 8
    · go_enter Tryd.func97, Tryd.ntmps97
      go_wp2
      go_ret
      exact ⟨by simp [h1, h2], rfl⟩
    · go_enter Tryd.func97, Tryd.ntmps97
      go_wp2
      go_ret
      exact ⟨by simp; omega, rfl⟩
  · go_enter Tryd.func97, Tryd.ntmps97
    go_wp2
    go_ret
    exact ⟨by simp; omega, rfl⟩

set_option maxRecDepth 1000000 in
theorem implFileOk_any (f : FileD) (w : World) :
    Calls Tryd.prog 79 #[f.value] w fun e w' => e = .returned (.bool (fileOk f)) ∧ Below w.heap.size w w' := by
  unfold FileD.value
  have HB := hid (below_more (Below.refl w.heap.size w) (.cells #[.string f.name, .string f.text, .int .i64 f.kept] 72))
  have cN' := fun w => implNameOk_any f.name w
  cases hA : nameOk f.name with
  | false =>
    rw [hA] at cN'
    have cN := hid cN'
    have hr : Hid (fileOk f = false) := by show _ = _; simp [fileOk, hA]
    clear cN' hA
    go_enter Tryd.func79, Tryd.ntmps79
    go_wp2_with fail
    refine (cN.out _).mono ?_
    rintro e w' ⟨rfl, hw⟩
    rw [hw]
    clear hw w'
    go_wp2
    go_ret
    exact ⟨by rw [hr.out]; rfl, HB.out⟩
  | true =>
    rw [hA] at cN'
    have cN := hid cN'
    clear cN'
    by_cases h1 : (f.text.size : Int) ≤ 20000
    · by_cases h2 : (0 : Int) ≤ f.kept
      · by_cases h3 : f.kept ≤ (f.text.size : Int)
        · have hr : Hid (fileOk f = true) := by
            show _ = _
            have h1' : f.text.size ≤ 20000 := by omega
            simp [fileOk, within, hA, h1', h2, h3]
          clear hA
          go_enter Tryd.func79, Tryd.ntmps79
          go_wp2_with fail
          refine (cN.out _).mono ?_
          rintro e w' ⟨rfl, hw⟩
          rw [hw]
          clear hw w'
          go_wp2
          go_ret
          exact ⟨by rw [hr.out]; rfl, HB.out⟩
        · have hr : Hid (fileOk f = decide (f.kept ≤ (f.text.size : Int))) := by show _ = _; simp [fileOk, within, h3]
          clear hA
          go_enter Tryd.func79, Tryd.ntmps79
          go_wp2_with fail
          refine (cN.out _).mono ?_
          rintro e w' ⟨rfl, hw⟩
          rw [hw]
          clear hw w'
          go_wp2
          go_ret
          exact ⟨by rw [hr.out]; rfl, HB.out⟩
      · have hr : Hid (fileOk f = false) := by show _ = _; simp [fileOk, within, h2]
        clear hA
        go_enter Tryd.func79, Tryd.ntmps79
        go_wp2_with fail
        refine (cN.out _).mono ?_
        rintro e w' ⟨rfl, hw⟩
        rw [hw]
        clear hw w'
        go_wp2
        go_ret
        exact ⟨by rw [hr.out]; rfl, HB.out⟩
    · have hr : Hid (fileOk f = false) := by
        show _ = _
        have h1' : ¬ f.text.size ≤ 20000 := by omega
        simp [fileOk, h1']
      clear hA
      go_enter Tryd.func79, Tryd.ntmps79
      go_wp2_with fail
      refine (cN.out _).mono ?_
      rintro e w' ⟨rfl, hw⟩
      rw [hw]
      clear hw w'
      go_wp2
      go_ret
      exact ⟨by rw [hr.out]; rfl, HB.out⟩

set_option maxRecDepth 1000000 in
set_option maxHeartbeats 1000000 in
theorem implDiskOk_any (ao : Option Addr) (l : List FileD) (cap : Nat) (hl : l.length ≤ 16777216) (w : World) (ha : FilesAt w ao l) :
    Calls Tryd.prog 41 #[.agg #[.slice ao l.length cap]] w fun e w' => e = .returned (.bool (diskOk l)) ∧ Below w.heap.size w w' := by
  have HA := (show Hid (FilesAt w ao l) from ha)
  clear ha
  by_cases h30 : (30 : Int) < (l.length : Int)
  · have hr : Hid (diskOk l = false) := by show _ = _; unfold diskOk; simp; omega
    go_enter Tryd.func41, Tryd.ntmps41
    go_wp2
    go_ret
    exact ⟨by rw [hr.out]; rfl, below_more (Below.refl _ w) _⟩
  · have HB := (show Hid _ from below_more (Below.refl w.heap.size w) (.cells #[.slice ao l.length cap] 37))
    have HX := (show Hid (BlockIs (w.alloc (.cells #[.slice ao l.length cap] 37)) w.heap.size 37 [.slice ao l.length cap]) from heap_alloc_new w _)
    go_enter Tryd.func41, Tryd.ntmps41
    go_wp2
    go_loopg [3, 4, 12] l.length (fun g _ _ i wr => ∃ (k : Nat), k + g = l.length ∧ i = .int .i64 k ∧ Hid (Below w.heap.size w wr) ∧ Hid (BlockIs wr w.heap.size 37 [.slice ao l.length cap]) ∧ Hid (rightTo l k = true))
    case atStart => exact ⟨0, by omega, rfl, HB, HX, rfl⟩
    case round =>
      obtain ⟨k, hkg, rfl, BR, XR, RT⟩ := hrel
      clear HB HX
      have c0 := XR.out.cell (j := 0) rfl
      cases gk with
      | zero =>
        have hlt : ¬ (k : Int) < (l.length : Int) := by omega
        have hr : Hid (diskOk l = true) := by show _ = _; exact diskOk_of (by omega) (by rw [← RT.out, show k = l.length by omega])
        go_wp2
        go_ret
        exact ⟨by rw [hr.out]; rfl, BR.out⟩
      | succ g =>
        have hlt : k < l.length := by omega
        have hlt' : (k : Int) < (l.length : Int) := by omega
        have hne : l ≠ [] := by intro e; rw [e] at hlt; simp at hlt
        obtain ⟨b, off, rfl, hc⟩ := HA.out.on BR.out hne
        obtain ⟨x0, x1, x2⟩ := hc k hlt
        have HC := hid hc
        clear hc
        go_wp2
        generalize hW2 : wr.alloc (.cells #[.string l[k].name, .string l[k].text, .int .i64 l[k].kept] 72) = W2
        have hb2 : Below wr.heap.size wr W2 := by rw [← hW2]; exact below_more (Below.refl _ wr) _
        have hx2 : BlockIs W2 wr.heap.size 72 [.string l[k].name, .string l[k].text, .int .i64 l[k].kept] := by rw [← hW2]; exact heap_alloc_new wr _
        have n0 := cell_regrown (hx2.cell (j := 0) rfl)
        have n1 := cell_regrown (hx2.cell (j := 1) rfl)
        have n2 := cell_regrown (hx2.cell (j := 2) rfl)
        have XW := XR.out.on hb2 XR.out.lt
        have d0 := cell_regrown (XW.cell (j := 0) rfl)
        have B2 := (show Hid (Below w.heap.size w W2) from below_via BR.out hb2)
        have X2 := (show Hid (BlockIs _ _ _ _) from XW)
        have C' := fun d os => Calls.regrown_of (w := W2) (d := d) (os := os) (implFileOk_any l[k] _)
        unfold FileD.value at C'
        clear hW2 hx2 c0 x0 x1 x2 XW
        cases hA : fileOk l[k] with
        | false =>
          have hr : Hid (diskOk l = false) := not_diskOk hlt (by simp [hA])
          rw [hA] at C'
          have C := hid C'
          clear C' hA
          refine wp_region_quiet_below (by kernel_rfl) (by kernel_rfl) ?_
          repeat (first | go_big_quiet_step (first | (go_at_call 79; exact C.out _ _) | fail) | quiet_step (first | (go_at_call 79; exact C.out _ _) | fail))
          refine wpQuiet_nil ?_
          intro _ hw'
          obtain ⟨⟨dq, osq⟩, hw''⟩ := hw'
          subst hw''
          have BQ : Hid (Below w.heap.size w (grow (redrawn W2 dq) osq)) := B2.out.trans ((below_regrown W2 dq osq).mono B2.out.size)
          generalize grow (redrawn W2 dq) osq = wq at BQ ⊢
          clear n0 n1 n2 d0 C
          go_wp2
          go_ret
          exact ⟨by rw [hr.out]; rfl, BQ.out⟩
        | true =>
          rw [hA] at C'
          have C := hid C'
          clear C'
          cases k with
          | zero =>
            have HR : Hid (rightTo l 1 = true) := by show _ = _; rw [rightTo_step hlt]; simp [rightTo, behind, hA]
            clear hA
            refine wp_region_quiet_below (by kernel_rfl) (by kernel_rfl) ?_
            repeat (first | go_big_quiet_step (first | (go_at_call 79; exact C.out _ _) | fail) | quiet_step (first | (go_at_call 79; exact C.out _ _) | fail))
            refine wpQuiet_nil ?_
            intro _ hw'
            obtain ⟨⟨dq, osq⟩, hw''⟩ := hw'
            subst hw''
            have BQ : Hid (Below w.heap.size w (grow (redrawn W2 dq) osq)) := B2.out.trans ((below_regrown W2 dq osq).mono B2.out.size)
            have XQ : Hid (BlockIs (grow (redrawn W2 dq) osq) w.heap.size 37 [.slice (some ⟨b, off, none⟩) l.length cap]) := X2.out.on (below_regrown W2 dq osq) X2.out.lt
            generalize grow (redrawn W2 dq) osq = wq at BQ XQ ⊢
            clear n0 n1 n2 d0 C
            go_wp2
            go_roundg g
            case measure => omega
            case rel => exact ⟨1, by omega, by go_num, BQ, XQ, HR⟩
          | succ j =>
            have hj : j < l.length := by omega
            have p0 := cell_regrown (show W2.cell? ⟨b, off + j * 3, none⟩ = some (.string l[j].name) from (hb2.cell (p := ⟨b, off + j * 3, none⟩) (World.block_lt_of_cell? wr _ (HC.out j hj).1)).trans (HC.out j hj).1)
            have hpos : (0 : Int) < (((j + 1 : Nat)) : Int) := by omega
            have hsub : (((j + 1 : Nat)) : Int) - 1 = (j : Int) := by omega
            have hjl : (j : Int) < (l.length : Int) := by omega
            have hwj : IntKind.i64.wrap (j : Int) = (j : Int) := by rw [IntKind.wrap_i64]; omega
            cases hL : textLt l[j].name l[j + 1].name with
            | false =>
              have hr : Hid (diskOk l = false) := not_diskOk hlt (by rw [behind_step hlt, hL]; simp)
              have hL' : Op.bytesLess l[j].name.toList l[j + 1].name.toList = false := hL
              clear hA hL
              refine wp_region_quiet_below (by kernel_rfl) (by kernel_rfl) ?_
              repeat (first | go_big_quiet_step (first | (go_at_call 79; exact C.out _ _) | fail) | quiet_step (first | (go_at_call 79; exact C.out _ _) | fail))
              refine wpQuiet_nil ?_
              intro _ hw'
              obtain ⟨⟨dq, osq⟩, hw''⟩ := hw'
              subst hw''
              have BQ : Hid (Below w.heap.size w (grow (redrawn W2 dq) osq)) := B2.out.trans ((below_regrown W2 dq osq).mono B2.out.size)
              generalize grow (redrawn W2 dq) osq = wq at BQ ⊢
              clear n0 n1 n2 d0 C p0
              go_wp2
              go_ret
              exact ⟨by rw [hr.out]; rfl, BQ.out⟩
            | true =>
              have HR : Hid (rightTo l (j + 1 + 1) = true) := by show _ = _; rw [rightTo_step hlt, RT.out, behind_step hlt, hL]; simp [hA]
              have hL' : Op.bytesLess l[j].name.toList l[j + 1].name.toList = true := hL
              clear hA hL
              refine wp_region_quiet_below (by kernel_rfl) (by kernel_rfl) ?_
              repeat (first | go_big_quiet_step (first | (go_at_call 79; exact C.out _ _) | fail) | quiet_step (first | (go_at_call 79; exact C.out _ _) | fail))
              refine wpQuiet_nil ?_
              intro _ hw'
              obtain ⟨⟨dq, osq⟩, hw''⟩ := hw'
              subst hw''
              have BQ : Hid (Below w.heap.size w (grow (redrawn W2 dq) osq)) := B2.out.trans ((below_regrown W2 dq osq).mono B2.out.size)
              have XQ : Hid (BlockIs (grow (redrawn W2 dq) osq) w.heap.size 37 [.slice (some ⟨b, off, none⟩) l.length cap]) := X2.out.on (below_regrown W2 dq osq) X2.out.lt
              generalize grow (redrawn W2 dq) osq = wq at BQ XQ ⊢
              clear n0 n1 n2 d0 C p0
              go_wp2
              go_roundg g
              case measure => omega
              case rel => exact ⟨j + 1 + 1, by omega, by go_num, BQ, XQ, HR⟩
end Go.Proofs.YtggogiepebnckaaDoor
