/-
  The walk of spec.SnapText: what it answers.
  The walk of spec.SnapName.
-/
import Derived.Test.YtoanhjjigbjecaaGreatDoorJoint1
import Derived.Test.YtoanhjjigbjecaaGreatDoorJoint12
import Derived.Test.YtoanhjjigbjecaaGreatDoorJoint16
import Derived.Test.YtoanhjjigbjecaaGreatDoorJoint20
import Derived.Test.YtoanhjjigbjecaaGreatDoorJoint21
import Derived.Deep.QuietTactic
import Derived.BigQuiet
import Derived.Lib.QuietBelow
import Derived.Laws.Concat
import Derived.Test.YtoanhjjigbjecaaGreatDoorJoint9
namespace Go.Proofs.YtoanhjjigbjecaaGreatDoor
open Go.RowKit Go.Sort

set_option maxRecDepth 1000000 in
set_option maxHeartbeats 4000000 in
theorem specSnapText_any (ix tm : Int) (ao : Option Addr) (zs : List Int) (cap : Nat) (bd : ByteArray) (hl : zs.length ≤ 1048576) (hbd : bd.size ≤ 1048576) (w : World) (hz : IntsAt w ao zs) :
    Calls Tryz.prog 24 #[snapV ix tm (.slice ao zs.length cap) bd] w fun e w' => e = .returned (.tuple #[.string (snapText ix tm zs bd).1, .bool (snapText ix tm zs bd).2]) ∧ Below w.heap.size w w' := by
  have HZ := hid hz
  have HB := hid (below_more (Below.refl w.heap.size w) (.cells #[.int .i64 ix, .int .i64 tm, .slice ao zs.length cap, .string bd] 29))
  have hx : BlockIs (w.alloc (.cells #[.int .i64 ix, .int .i64 tm, .slice ao zs.length cap, .string bd] 29)) w.heap.size 29 [.int .i64 ix, .int .i64 tm, .slice ao zs.length cap, .string bd] := heap_alloc_new w _
  obtain ⟨W, hW⟩ : ∃ W, w.alloc (.cells #[.int .i64 ix, .int .i64 tm, .slice ao zs.length cap, .string bd] 29) = W := ⟨_, rfl⟩
  rw [hW] at HB hx
  have HX := hid hx
  have c2 := hx.cell (j := 2) rfl
  clear hx hz
  go_enter Tryz.func24, Tryz.ntmps24
  go_wp2_with fail
  refine (specConfText_any ao zs cap hl _ (HZ.out.on HB.out)).mono ?_
  rintro e w2 ⟨rfl, b1⟩
  have X2 := hid (HX.out.on b1 HX.out.lt)
  have B2 := hid (below_via HB.out b1)
  have d0 := X2.out.cell (j := 0) rfl
  have d1 := X2.out.cell (j := 1) rfl
  have d3 := X2.out.cell (j := 3) rfl
  clear b1 HX HB c2 hW
  cases hC : confOk zs with
  | false =>
    have HR := hid (snapText_conf (ix := ix) (tm := tm) (bd := bd) hC)
    rw [confText_no hC]
    go_wp2
    go_ret2
    exact ⟨by rw [HR.out]; rfl, B2.out⟩
  | true =>
    rw [confText_yes hC]
    have hlen := confOk_len hC
    have hcs := confBytes_size zs
    obtain ⟨ct, hct⟩ : ∃ c : ByteArray, (⟨(confBytes zs).toArray⟩ : ByteArray) = c := ⟨_, rfl⟩
    rw [hct] at hcs ⊢
    have HCT := hid hct
    have hct4 : ct.size ≤ 4 := by omega
    clear hct hcs
    go_wp2_with fail
    refine (l01In_any ix 0 1000000 _).mono ?_
    rintro e w3 ⟨rfl, hw⟩
    rw [hw]
    clear hw w3
    cases hI : within ix 0 1000000 with
    | false =>
      have HR := hid (snapText_ix (ix := ix) (tm := tm) (zs := zs) (bd := bd) hI)
      clear hI
      go_wp2
      go_ret2
      exact ⟨by rw [HR.out]; rfl, B2.out⟩
    | true =>
      go_wp2_with fail
      refine (l01In_any tm 0 100000 _).mono ?_
      rintro e w3 ⟨rfl, hw⟩
      rw [hw]
      clear hw w3
      cases hM : within tm 0 100000 with
      | false =>
        have HR := hid (snapText_tm (ix := ix) (tm := tm) (zs := zs) (bd := bd) hM)
        clear hI hM
        go_wp2
        go_ret2
        exact ⟨by rw [HR.out]; rfl, B2.out⟩
      | true =>
        obtain ⟨i0, i1⟩ := within_iff.1 hI
        obtain ⟨t0, t1⟩ := within_iff.1 hM
        clear hI hM
        rcases Nat.lt_or_ge 20000 bd.size with hbig | hsm
        · have HR := hid (snapText_big (ix := ix) (tm := tm) (zs := zs) hbig)
          have h20 : (20000 : Int) < (bd.size : Int) := by omega
          go_wp2
          go_ret2
          exact ⟨by rw [HR.out]; rfl, B2.out⟩
        have h20 : ¬ (20000 : Int) < (bd.size : Int) := by omega
        obtain ⟨i, rfl⟩ : ∃ i : Nat, ix = i := ⟨ix.toNat, by omega⟩
        obtain ⟨t, rfl⟩ : ∃ t : Nat, tm = t := ⟨tm.toNat, by omega⟩
        have cI := fun d os => Calls.regrown_of (w := w2) (d := d) (os := os) (l01Var_any i (by omega) _)
        have cT := fun d os => Calls.regrown_of (w := w2) (d := d) (os := os) (l01Var_any t (by omega) _)
        have cC := fun d os => Calls.regrown_of (w := w2) (d := d) (os := os) (l05Short_any ct (by omega) _)
        have cB := fun d os => Calls.regrown_of (w := w2) (d := d) (os := os) (l05Short_any bd hbd _)
        have hin : Hid (snapIn i t zs bd = ⟨(vb i).toArray⟩ ++ ⟨(vb t).toArray⟩ ++ shortT ct ++ shortT bd) := by show _ = _; rw [snapIn, HCT.out]
        have hi3 := vb_short (show i ≤ 1000000 by omega)
        have ht3 := vb_short (show t ≤ 1000000 by omega)
        have hct3 := shortT_size ct
        have hcv := vb_short (show ct.size ≤ 1000000 by omega)
        have hST := shortT_size bd
        have hvl := vb_short (show bd.size ≤ 1000000 by omega)
        obtain ⟨V, hV⟩ : ∃ c : ByteArray, (⟨(vb i).toArray⟩ : ByteArray) = c := ⟨_, rfl⟩
        obtain ⟨T, hT⟩ : ∃ c : ByteArray, (⟨(vb t).toArray⟩ : ByteArray) = c := ⟨_, rfl⟩
        obtain ⟨SC, hSC⟩ : ∃ c : ByteArray, shortT ct = c := ⟨_, rfl⟩
        obtain ⟨SB, hSB⟩ : ∃ c : ByteArray, shortT bd = c := ⟨_, rfl⟩
        have hVs : V.size ≤ 3 := by rw [← hV]; show (vb i).toArray.size ≤ _; rw [List.size_toArray]; exact hi3
        have hTs : T.size ≤ 3 := by rw [← hT]; show (vb t).toArray.size ≤ _; rw [List.size_toArray]; exact ht3
        rw [hSC] at hct3 cC
        rw [hSB] at hST cB
        rw [hV] at cI
        rw [hT] at cT
        rw [hV, hT, hSC, hSB] at hin
        clear hV hT hSC hSB hi3 ht3
        obtain ⟨A1, q1⟩ : ∃ c : ByteArray, V ++ T = c := ⟨_, rfl⟩
        have z1 : A1.size = V.size + T.size := by rw [← q1, ByteArray.size_append]
        obtain ⟨A2, q2⟩ : ∃ c : ByteArray, A1 ++ SC = c := ⟨_, rfl⟩
        have z2 : A2.size = A1.size + SC.size := by rw [← q2, ByteArray.size_append]
        obtain ⟨A3, q3⟩ : ∃ c : ByteArray, A2 ++ SB = c := ⟨_, rfl⟩
        have z3 : A3.size = A2.size + SB.size := by rw [← q3, ByteArray.size_append]
        have hs1 : ∀ w, (Op.stringOp .add V T).run Tryz.prog w = .ok (.string A1) w := fun w => by rw [run_string_add_sum w _ _ (by omega), q1]
        have hs2 : ∀ w, (Op.stringOp .add A1 SC).run Tryz.prog w = .ok (.string A2) w := fun w => by rw [run_string_add_sum w _ _ (by omega), q2]
        have hs3 : ∀ w, (Op.stringOp .add A2 SB).run Tryz.prog w = .ok (.string A3) w := fun w => by rw [run_string_add_sum w _ _ (by omega), q3]
        have HI : Hid (snapIn i t zs bd = A3) := by show _ = _; rw [hin.out, q1, q2, q3]
        have hA3 : A3.size ≤ 100000 := by omega
        clear hin q1 q2 q3 z1 z2 z3 hST hvl hct3 hcv hVs hTs
        have hok : Hid (A3.size ≤ 19996 → snapText i t zs bd = (sealOf A3, true)) := fun h => by
          have := snapText_yes (ix := i) (tm := t) (zs := zs) (bd := bd) (snapOk_iff.2 ⟨hC, ⟨⟨by omega, by omega⟩, by omega, by omega⟩, by rw [Int.toNat_natCast, Int.toNat_natCast, HI.out]; exact h⟩)
          rw [this, Int.toNat_natCast, Int.toNat_natCast, HI.out]
        have hno : Hid (19996 < A3.size → snapText i t zs bd = (ByteArray.empty, false)) := fun h => snapText_long (by rw [Int.toNat_natCast, Int.toNat_natCast, HI.out]; exact h)
        clear HI hC hlen HCT
        have CI := hid cI
        have CT := hid cT
        have CC := hid cC
        have CB := hid cB
        have D0 := cell_regrown d0
        have D1 := cell_regrown d1
        have D3 := cell_regrown d3
        clear cI cT cC cB
        go_wp2
        refine wp_region_quiet_below (by kernel_rfl) (by kernel_rfl) ?_
        clear d0 d1 d3
        repeat (first
          | go_big_quiet_step (first | (go_at_call 50; with_reducible exact CI.out _ _) | (go_at_call 50; with_reducible exact CT.out _ _) | (go_at_call 57; with_reducible exact CC.out _ _) | (go_at_call 57; with_reducible exact CB.out _ _) | fail)
          | quiet_step (first | (go_at_call 50; with_reducible exact CI.out _ _) | (go_at_call 50; with_reducible exact CT.out _ _) | (go_at_call 57; with_reducible exact CC.out _ _) | (go_at_call 57; with_reducible exact CB.out _ _) | fail))
        refine wpQuiet_nil ?_
        intro _ hw'
        obtain ⟨⟨dq, osq⟩, hw''⟩ := hw'
        subst hw''
        have B3 : Hid (Below w.heap.size w (grow (redrawn w2 dq) osq)) := below_via B2.out (below_regrown w2 dq osq)
        generalize grow (redrawn w2 dq) osq = w3 at B3 ⊢
        clear D0 D1 D3 CI CT CC CB B2 X2 hs1 hs2 hs3
        rcases Nat.lt_or_ge 19996 A3.size with hb4 | hb4
        · have HR := hid (hno.out hb4)
          have h21 : (20000 : Int) < (A3.size : Int) + 4 := by omega
          clear hno hok
          go_wp2
          go_ret2
          exact ⟨by rw [HR.out]; rfl, B3.out⟩
        · have HR := hid (hok.out hb4)
          have h21 : ¬ (20000 : Int) < (A3.size : Int) + 4 := by omega
          clear hno hok
          go_wp2_with fail
          refine (specSealed_yes A3 (by omega) _).mono ?_
          rintro e w6 ⟨rfl, b6⟩
          rw [show (A3 ++ ⟨(four (sumOf A3.data.toList)).toArray⟩ : ByteArray) = sealOf A3 from rfl]
          have B6 := hid (below_via B3.out b6)
          clear b6 B3
          obtain ⟨Z, hZ⟩ : ∃ c : ByteArray, sealOf A3 = c := ⟨_, rfl⟩
          rw [hZ] at HR ⊢
          clear hZ
          go_wp2
          go_ret2
          exact ⟨by rw [HR.out]; rfl, B6.out⟩
end Go.Proofs.YtoanhjjigbjecaaGreatDoor

namespace Go.Proofs.YtoanhjjigbjecaaGreatDoor
open Go.RowKit

set_option maxRecDepth 1000000 in
set_option maxHeartbeats 1000000 in
theorem specSName_any (n : Int) (w : World) : Calls Tryz.prog 26 #[.int .i64 n] w fun e w' => e = .returned (.string (sname n)) ∧ Below w.heap.size w w' := by
  cases h1 : within n 0 1000000 with
  | false =>
    have HJ := hid (sname_no h1)
    go_enter Tryz.func26, Tryz.ntmps26
    go_wp2_with fail
    refine (l01In_any n 0 1000000 _).mono ?_
    rintro e w1 ⟨rfl, hw⟩
    rw [hw, h1]
    clear hw w1 h1
    go_wp2
    go_ret
    exact ⟨by rw [HJ.out]; rfl, Below.refl _ _⟩
  | true =>
    have HJ := hid (sname_yes h1)
    have hb := within_iff.1 h1
    obtain ⟨m, rfl⟩ : ∃ m : Nat, n = m := ⟨n.toNat, by omega⟩
    go_enter Tryz.func26, Tryz.ntmps26
    go_wp2_with fail
    refine (l01In_any m 0 1000000 _).mono ?_
    rintro e w1 ⟨rfl, hw⟩
    rw [hw, h1]
    clear hw w1 h1
    go_wp2_with fail
    refine (specDecimal_nat m (by omega) _).mono ?_
    rintro e w1 ⟨rfl, b1⟩
    have B1 := hid b1
    clear b1
    obtain ⟨T, hT⟩ : ∃ T : ByteArray, (⟨(dec m).toArray⟩ : ByteArray) = T := ⟨_, rfl⟩
    have hTs : T.size ≤ 7 := by rw [← hT]; exact dec_small7 (by omega)
    rw [hT] at HJ ⊢
    clear hT
    obtain ⟨U, hU⟩ : ∃ U : ByteArray, (⟨#[115]⟩ : ByteArray) ++ T = U := ⟨_, rfl⟩
    have hs1 : ∀ w, (Op.stringOp .add ⟨#[115]⟩ T).run Tryz.prog w = .ok (.string U) w := fun w => by rw [run_string_add_sum w _ _ (by rw [show (⟨#[115]⟩ : ByteArray).size = 1 from rfl]; omega), hU]
    rw [hU] at HJ
    clear hU
    go_wp2
    go_ret
    exact ⟨by rw [HJ.out]; rfl, B1.out⟩
end Go.Proofs.YtoanhjjigbjecaaGreatDoor
