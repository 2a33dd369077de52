/-
  The walk of impl.SnapText: what it answers, where the table of sums lies as its text lays it.
-/
import Derived.Test.YtoanhjjigbjecaaGreatDoorJoint1
import Derived.Test.YtoanhjjigbjecaaGreatDoorJoint30
import Derived.Test.YtoanhjjigbjecaaGreatDoorJoint31
import Derived.Test.YtoanhjjigbjecaaGreatDoorJoint32
import Derived.Test.YtoanhjjigbjecaaGreatDoorJoint34
import Derived.Laws.Concat
namespace Go.Proofs.YtoanhjjigbjecaaGreatDoor
open Go.RowKit

set_option maxRecDepth 1000000 in
set_option maxHeartbeats 2000000 in
theorem implSnapText_any (ix tm : Int) (ao : Option Addr) (zs : List Int) (cap : Nat) (bd : ByteArray) (hl : zs.length ≤ 1048576) (hbd : bd.size ≤ 1048576) (w : World) (hz : IntsAt w ao zs) (ht : Steps w) :
    Calls Tryz.prog 7 #[snapV ix tm (.slice ao zs.length cap) bd] w fun e w' => e = .returned (.tuple #[.string (snapText ix tm zs bd).1, .bool (snapText ix tm zs bd).2]) ∧ Below w.heap.size w w' := by
  have HT := hid ht
  have HZ := hid hz
  have HB := hid (below_more (Below.refl w.heap.size w) (.cells #[.int .i64 ix, .int .i64 tm, .slice ao zs.length cap, .string bd] 29))
  have hx : BlockIs (w.alloc (.cells #[.int .i64 ix, .int .i64 tm, .slice ao zs.length cap, .string bd] 29)) w.heap.size 29 [.int .i64 ix, .int .i64 tm, .slice ao zs.length cap, .string bd] := heap_alloc_new w _
  obtain ⟨W, hW⟩ : ∃ W, w.alloc (.cells #[.int .i64 ix, .int .i64 tm, .slice ao zs.length cap, .string bd] 29) = W := ⟨_, rfl⟩
  rw [hW] at HB hx
  have HX := hid hx
  have c2 := hx.cell (j := 2) rfl
  clear hx hz ht
  go_enter Tryz.func7, Tryz.ntmps7
  go_wp2_with fail
  refine (implConfText_any ao zs cap hl _ (HZ.out.on HB.out)).mono ?_
  rintro e w1 ⟨rfl, b1⟩
  have X1 := hid (HX.out.on b1 HX.out.lt)
  have B1 := hid (below_via HB.out b1)
  have d3 := X1.out.cell (j := 3) rfl
  clear b1 HX HB c2 hW
  rcases Nat.lt_or_ge 20000 bd.size with hbig | hsm
  · have HR := hid (snapText_big (ix := ix) (tm := tm) (zs := zs) hbig)
    go_wp2_with fail
    refine (implShortText_no bd hbig _).mono ?_
    rintro e w2 ⟨rfl, b2⟩
    have B2 := hid (below_via B1.out b2)
    clear b2 B1 X1 d3
    obtain ⟨⟨ct, cok⟩, hct⟩ : ∃ c, confText zs = c := ⟨_, rfl⟩
    rw [hct]
    dsimp only
    clear hct
    cases cok
    · go_wp2
      go_ret2
      exact ⟨by rw [HR.out]; rfl, B2.out⟩
    · go_wp2
      go_ret2
      exact ⟨by rw [HR.out]; rfl, B2.out⟩
  have hST := shortT_size bd
  have hvl := vb_short (show bd.size ≤ 1000000 by omega)
  go_wp2_with fail
  refine (implShortText_yes bd hsm _).mono ?_
  rintro e w2 ⟨rfl, b2⟩
  rw [show (⟨(vb bd.size).toArray⟩ ++ bd : ByteArray) = shortT bd from rfl]
  have X2 := hid (X1.out.on b2 X1.out.lt)
  have B2 := hid (below_via B1.out b2)
  clear b2 B1 X1 d3
  cases hC : confOk zs with
  | false =>
    have HR := hid (snapText_conf (ix := ix) (tm := tm) (bd := bd) hC)
    rw [confText_no hC]
    go_wp2
    go_ret2
    exact ⟨by rw [HR.out]; rfl, B2.out⟩
  | true =>
    rw [confText_yes hC]
    have hlen := confOk_len hC
    have e0 := X2.out.cell (j := 0) rfl
    have e1 := X2.out.cell (j := 1) rfl
    have hcs := confBytes_size zs
    obtain ⟨ct, hct⟩ : ∃ c : ByteArray, (⟨(confBytes zs).toArray⟩ : ByteArray) = c := ⟨_, rfl⟩
    rw [hct] at hcs ⊢
    have HCT := hid hct
    clear hct
    obtain ⟨SB, hSB⟩ : ∃ c : ByteArray, shortT bd = c := ⟨_, rfl⟩
    rw [hSB] at hST ⊢
    have HSB := hid hSB
    clear hSB
    go_wp2_with fail
    refine (placeOk_any ix tm _).mono ?_
    rintro e w3 ⟨rfl, hw⟩
    rw [hw]
    clear hw w3
    cases hP : (within ix 0 1000000 && within tm 0 100000) with
    | false =>
      have HR : Hid (snapText ix tm zs bd = (ByteArray.empty, false)) := by
        rw [Bool.and_eq_false_iff] at hP
        rcases hP with q | q
        · exact snapText_ix q
        · exact snapText_tm q
      clear hP
      go_wp2
      go_ret2
      exact ⟨by rw [HR.out]; rfl, B2.out⟩
    | true =>
      have hP2 := hP
      rw [Bool.and_eq_true, within_iff, within_iff] at hP2
      obtain ⟨⟨i0, i1⟩, t0, t1⟩ := hP2
      clear hP
      obtain ⟨i, rfl⟩ : ∃ i : Nat, ix = i := ⟨ix.toNat, by omega⟩
      obtain ⟨t, rfl⟩ : ∃ t : Nat, tm = t := ⟨tm.toNat, by omega⟩
      go_wp2_with fail
      refine (implVarText_yes i (by omega) _).mono ?_
      rintro e w3 ⟨rfl, b3⟩
      have X3 := hid (X2.out.on b3 X2.out.lt)
      have B3 := hid (below_via B2.out b3)
      have g1 := X3.out.cell (j := 1) rfl
      clear b3 B2 X2 e0 e1
      go_wp2_with fail
      refine (implVarText_yes t (by omega) _).mono ?_
      rintro e w4 ⟨rfl, b4⟩
      have B4 := hid (below_via B3.out b4)
      clear b4 B3 X3 g1
      go_wp2_with fail
      refine (implShortText_yes ct (by omega) _).mono ?_
      rintro e w5 ⟨rfl, b5⟩
      rw [show (⟨(vb ct.size).toArray⟩ ++ ct : ByteArray) = shortT ct from rfl]
      have B5 := hid (below_via B4.out b5)
      clear b5 B4
      have hin : Hid (snapIn i t zs bd = ⟨(vb i).toArray⟩ ++ ⟨(vb t).toArray⟩ ++ shortT ct ++ SB) := by show _ = _; rw [snapIn, HCT.out, HSB.out]
      have hi3 := vb_short (show i ≤ 1000000 by omega)
      have ht3 := vb_short (show t ≤ 1000000 by omega)
      have hct3 := shortT_size ct
      have hcv := vb_short (show ct.size ≤ 1000000 by omega)
      obtain ⟨V, hV⟩ : ∃ c : ByteArray, (⟨(vb i).toArray⟩ : ByteArray) = c := ⟨_, rfl⟩
      obtain ⟨T, hT⟩ : ∃ c : ByteArray, (⟨(vb t).toArray⟩ : ByteArray) = c := ⟨_, rfl⟩
      obtain ⟨SC, hSC⟩ : ∃ c : ByteArray, shortT ct = c := ⟨_, rfl⟩
      have hVs : V.size ≤ 3 := by rw [← hV]; show (vb i).toArray.size ≤ _; rw [List.size_toArray]; exact hi3
      have hTs : T.size ≤ 3 := by rw [← hT]; show (vb t).toArray.size ≤ _; rw [List.size_toArray]; exact ht3
      rw [hSC] at hct3
      rw [hV, hT, hSC] at hin ⊢
      clear hV hT hSC hi3 ht3
      obtain ⟨A1, q1⟩ : ∃ c : ByteArray, V ++ T = c := ⟨_, rfl⟩
      have z1 : A1.size = V.size + T.size := by rw [← q1, ByteArray.size_append]
      obtain ⟨A2, q2⟩ : ∃ c : ByteArray, A1 ++ SC = c := ⟨_, rfl⟩
      have z2 : A2.size = A1.size + SC.size := by rw [← q2, ByteArray.size_append]
      obtain ⟨A3, q3⟩ : ∃ c : ByteArray, A2 ++ SB = c := ⟨_, rfl⟩
      have z3 : A3.size = A2.size + SB.size := by rw [← q3, ByteArray.size_append]
      have hs1 : ∀ w, (Op.stringOp .add V T).run Tryz.prog w = .ok (.string A1) w := fun w => by rw [run_string_add_sum w _ _ (by omega), q1]
      have hs2 : ∀ w, (Op.stringOp .add A1 SC).run Tryz.prog w = .ok (.string A2) w := fun w => by rw [run_string_add_sum w _ _ (by omega), q2]
      have hs3 : ∀ w, (Op.stringOp .add A2 SB).run Tryz.prog w = .ok (.string A3) w := fun w => by rw [run_string_add_sum w _ _ (by omega), q3]
      have HI : Hid (snapIn i t zs bd = A3) := by show _ = _; rw [hin.out, q1, q2, q3]
      clear hin q1 q2 q3
      have hok : Hid (A3.size ≤ 19996 → snapText i t zs bd = (sealOf A3, true)) := fun h => by
        have := snapText_yes (ix := i) (tm := t) (zs := zs) (bd := bd) (snapOk_iff.2 ⟨hC, ⟨⟨by omega, by omega⟩, by omega, by omega⟩, by rw [Int.toNat_natCast, Int.toNat_natCast, HI.out]; exact h⟩)
        rw [this, Int.toNat_natCast, Int.toNat_natCast, HI.out]
      have hno : Hid (19996 < A3.size → snapText i t zs bd = (ByteArray.empty, false)) := fun h => snapText_long (by rw [Int.toNat_natCast, Int.toNat_natCast, HI.out]; exact h)
      clear HI hC hlen
      rcases Nat.lt_or_ge 20000 A3.size with hb3 | hb3
      · have HR := hid (hno.out (by omega))
        clear hno hok
        go_wp2_with fail
        refine (implSealed_no A3 hb3 _).mono ?_
        rintro e w6 ⟨rfl, b6⟩
        have B6 := hid (below_via B5.out b6)
        clear b6 B5
        go_wp2
        go_ret2
        exact ⟨by rw [HR.out]; rfl, B6.out⟩
      · have hzz := sealOf_size A3
        go_wp2_with fail
        refine (implSealed_yes A3 hb3 _ (steps_on HT.out B5.out)).mono ?_
        rintro e w6 ⟨rfl, b6⟩
        rw [show (A3 ++ ⟨(four (sumOf A3.data.toList)).toArray⟩ : ByteArray) = sealOf A3 from rfl]
        have B6 := hid (below_via B5.out b6)
        clear b6 B5
        obtain ⟨Z, hZ⟩ : ∃ c : ByteArray, sealOf A3 = c := ⟨_, rfl⟩
        rw [hZ] at hok hzz ⊢
        clear hZ
        rcases Nat.lt_or_ge 19996 A3.size with hb4 | hb4
        · have HR := hid (hno.out hb4)
          have h20 : (20000 : Int) < (Z.size : Int) := by omega
          clear hno hok hzz z1 z2 z3
          go_wp2
          go_ret2
          exact ⟨by rw [HR.out]; rfl, B6.out⟩
        · have HR := hid (hok.out hb4)
          have h20 : ¬ (20000 : Int) < (Z.size : Int) := by omega
          clear hno hok hzz z1 z2 z3
          go_wp2
          go_ret2
          exact ⟨by rw [HR.out]; rfl, B6.out⟩
end Go.Proofs.YtoanhjjigbjecaaGreatDoor
