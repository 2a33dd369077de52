/-
  The walk of impl.SnapText: what it answers, where the table of sums lies as its text lays it.
  The walk of impl.ReadConf: what it answers.
  The walk of impl.Frame: what it answers.
-/
import Derived.Test.YtihgkocfgjihhaaGreatDoorJoint1
import Derived.Test.YtihgkocfgjihhaaGreatDoorJoint18
import Derived.Test.YtihgkocfgjihhaaGreatDoorJoint19
import Derived.Test.YtihgkocfgjihhaaGreatDoorJoint11
import Derived.Test.YtihgkocfgjihhaaGreatDoorJoint22
import Derived.Laws.Concat
import Derived.OwnWalk
import Derived.Test.YtihgkocfgjihhaaGreatDoorJoint20
import Derived.Test.YtihgkocfgjihhaaGreatDoorJoint21
namespace Go.Proofs.YtihgkocfgjihhaaGreatDoor
open Go.RowKit

set_option maxRecDepth 1000000 in
set_option maxHeartbeats 2000000 in
theorem implSnapText_any (ix tm : Int) (ao : Option Addr) (zs : List Int) (cap : Nat) (bd : ByteArray) (hl : zs.length ≤ 1048576) (hbd : bd.size ≤ 1048576) (w : World) (hz : IntsAt w ao zs) (ht : Steps w) :
    Calls Tryz.prog 29 #[snapV ix tm (.slice ao zs.length cap) bd] w fun e w' => e = .returned (.tuple #[.string (snapText ix tm zs bd).1, .bool (snapText ix tm zs bd).2]) ∧ Below w.heap.size w w' := by
  have HT := hid ht
  have HZ := hid hz
  have HB := hid (below_more (Below.refl w.heap.size w) (.cells #[.int .i64 ix, .int .i64 tm, .slice ao zs.length cap, .string bd] 53))
  have hx : BlockIs (w.alloc (.cells #[.int .i64 ix, .int .i64 tm, .slice ao zs.length cap, .string bd] 53)) w.heap.size 53 [.int .i64 ix, .int .i64 tm, .slice ao zs.length cap, .string bd] := heap_alloc_new w _
  obtain ⟨W, hW⟩ : ∃ W, w.alloc (.cells #[.int .i64 ix, .int .i64 tm, .slice ao zs.length cap, .string bd] 53) = W := ⟨_, rfl⟩
  rw [hW] at HB hx
  have HX := hid hx
  have c2 := hx.cell (j := 2) rfl
  clear hx hz ht
  go_enter Tryz.func29, Tryz.ntmps29
  go_wp2_with fail
  refine (implConfText_any ao zs cap hl _ (HZ.out.on HB.out)).mono ?_
  rintro e w1 ⟨rfl, b1⟩
  have X1 := hid (HX.out.on b1 HX.out.lt)
  have B1 := hid (below_via HB.out b1)
  have d3 := X1.out.cell (j := 3) rfl
  clear b1 HX HB c2 hW
  rcases Nat.lt_or_ge 20000 bd.size with hbig | hsm
  · have HR := hid (snapText_big (ix := ix) (tm := tm) (zs := zs) hbig)
    go_wp2_with fail
    refine (implShortText_no bd hbig _).mono ?_
    rintro e w2 ⟨rfl, b2⟩
    have B2 := hid (below_via B1.out b2)
    clear b2 B1 X1 d3
    obtain ⟨⟨ct, cok⟩, hct⟩ : ∃ c, confText zs = c := ⟨_, rfl⟩
    rw [hct]
    dsimp only
    clear hct
    cases cok
    · go_wp2
      go_ret2
      exact ⟨by rw [HR.out]; rfl, B2.out⟩
    · go_wp2
      go_ret2
      exact ⟨by rw [HR.out]; rfl, B2.out⟩
  have hST := shortT_size bd
  have hvl := vb_short (show bd.size ≤ 1000000 by omega)
  go_wp2_with fail
  refine (implShortText_yes bd hsm _).mono ?_
  rintro e w2 ⟨rfl, b2⟩
  rw [show (⟨(vb bd.size).toArray⟩ ++ bd : ByteArray) = shortT bd from rfl]
  have X2 := hid (X1.out.on b2 X1.out.lt)
  have B2 := hid (below_via B1.out b2)
  clear b2 B1 X1 d3
  cases hC : confOk zs with
  | false =>
    have HR := hid (snapText_conf (ix := ix) (tm := tm) (bd := bd) hC)
    rw [confText_no hC]
    go_wp2
    go_ret2
    exact ⟨by rw [HR.out]; rfl, B2.out⟩
  | true =>
    rw [confText_yes hC]
    have hlen := confOk_len hC
    have e0 := X2.out.cell (j := 0) rfl
    have e1 := X2.out.cell (j := 1) rfl
    have hcs := confBytes_size zs
    obtain ⟨ct, hct⟩ : ∃ c : ByteArray, (⟨(confBytes zs).toArray⟩ : ByteArray) = c := ⟨_, rfl⟩
    rw [hct] at hcs ⊢
    have HCT := hid hct
    clear hct
    obtain ⟨SB, hSB⟩ : ∃ c : ByteArray, shortT bd = c := ⟨_, rfl⟩
    rw [hSB] at hST ⊢
    have HSB := hid hSB
    clear hSB
    go_wp2_with fail
    refine (placeOk_any ix tm _).mono ?_
    rintro e w3 ⟨rfl, hw⟩
    rw [hw]
    clear hw w3
    cases hP : (within ix 0 1000000 && within tm 0 100000) with
    | false =>
      have HR : Hid (snapText ix tm zs bd = (ByteArray.empty, false)) := by
        rw [Bool.and_eq_false_iff] at hP
        rcases hP with q | q
        · exact snapText_ix q
        · exact snapText_tm q
      clear hP
      go_wp2
      go_ret2
      exact ⟨by rw [HR.out]; rfl, B2.out⟩
    | true =>
      have hP2 := hP
      rw [Bool.and_eq_true, within_iff, within_iff] at hP2
      obtain ⟨⟨i0, i1⟩, t0, t1⟩ := hP2
      clear hP
      obtain ⟨i, rfl⟩ : ∃ i : Nat, ix = i := ⟨ix.toNat, by omega⟩
      obtain ⟨t, rfl⟩ : ∃ t : Nat, tm = t := ⟨tm.toNat, by omega⟩
      go_wp2_with fail
      refine (implVarText_yes i (by omega) _).mono ?_
      rintro e w3 ⟨rfl, b3⟩
      have X3 := hid (X2.out.on b3 X2.out.lt)
      have B3 := hid (below_via B2.out b3)
      have g1 := X3.out.cell (j := 1) rfl
      clear b3 B2 X2 e0 e1
      go_wp2_with fail
      refine (implVarText_yes t (by omega) _).mono ?_
      rintro e w4 ⟨rfl, b4⟩
      have B4 := hid (below_via B3.out b4)
      clear b4 B3 X3 g1
      go_wp2_with fail
      refine (implShortText_yes ct (by omega) _).mono ?_
      rintro e w5 ⟨rfl, b5⟩
      rw [show (⟨(vb ct.size).toArray⟩ ++ ct : ByteArray) = shortT ct from rfl]
      have B5 := hid (below_via B4.out b5)
      clear b5 B4
      have hin : Hid (snapIn i t zs bd = ⟨(vb i).toArray⟩ ++ ⟨(vb t).toArray⟩ ++ shortT ct ++ SB) := by show _ = _; rw [snapIn, HCT.out, HSB.out]
      have hi3 := vb_short (show i ≤ 1000000 by omega)
      have ht3 := vb_short (show t ≤ 1000000 by omega)
      have hct3 := shortT_size ct
      have hcv := vb_short (show ct.size ≤ 1000000 by omega)
      obtain ⟨V, hV⟩ : ∃ c : ByteArray, (⟨(vb i).toArray⟩ : ByteArray) = c := ⟨_, rfl⟩
      obtain ⟨T, hT⟩ : ∃ c : ByteArray, (⟨(vb t).toArray⟩ : ByteArray) = c := ⟨_, rfl⟩
      obtain ⟨SC, hSC⟩ : ∃ c : ByteArray, shortT ct = c := ⟨_, rfl⟩
      have hVs : V.size ≤ 3 := by rw [← hV]; show (vb i).toArray.size ≤ _; rw [List.size_toArray]; exact hi3
      have hTs : T.size ≤ 3 := by rw [← hT]; show (vb t).toArray.size ≤ _; rw [List.size_toArray]; exact ht3
      rw [hSC] at hct3
      rw [hV, hT, hSC] at hin ⊢
      clear hV hT hSC hi3 ht3
      obtain ⟨A1, q1⟩ : ∃ c : ByteArray, V ++ T = c := ⟨_, rfl⟩
      have z1 : A1.size = V.size + T.size := by rw [← q1, ByteArray.size_append]
      obtain ⟨A2, q2⟩ : ∃ c : ByteArray, A1 ++ SC = c := ⟨_, rfl⟩
      have z2 : A2.size = A1.size + SC.size := by rw [← q2, ByteArray.size_append]
      obtain ⟨A3, q3⟩ : ∃ c : ByteArray, A2 ++ SB = c := ⟨_, rfl⟩
      have z3 : A3.size = A2.size + SB.size := by rw [← q3, ByteArray.size_append]
      have hs1 : ∀ w, (Op.stringOp .add V T).run Tryz.prog w = .ok (.string A1) w := fun w => by rw [run_string_add_sum w _ _ (by omega), q1]
      have hs2 : ∀ w, (Op.stringOp .add A1 SC).run Tryz.prog w = .ok (.string A2) w := fun w => by rw [run_string_add_sum w _ _ (by omega), q2]
      have hs3 : ∀ w, (Op.stringOp .add A2 SB).run Tryz.prog w = .ok (.string A3) w := fun w => by rw [run_string_add_sum w _ _ (by omega), q3]
      have HI : Hid (snapIn i t zs bd = A3) := by show _ = _; rw [hin.out, q1, q2, q3]
      clear hin q1 q2 q3
      have hok : Hid (A3.size ≤ 19996 → snapText i t zs bd = (sealOf A3, true)) := fun h => by
        have := snapText_yes (ix := i) (tm := t) (zs := zs) (bd := bd) (snapOk_iff.2 ⟨hC, ⟨⟨by omega, by omega⟩, by omega, by omega⟩, by rw [Int.toNat_natCast, Int.toNat_natCast, HI.out]; exact h⟩)
        rw [this, Int.toNat_natCast, Int.toNat_natCast, HI.out]
      have hno : Hid (19996 < A3.size → snapText i t zs bd = (ByteArray.empty, false)) := fun h => snapText_long (by rw [Int.toNat_natCast, Int.toNat_natCast, HI.out]; exact h)
      clear HI hC hlen
      rcases Nat.lt_or_ge 20000 A3.size with hb3 | hb3
      · have HR := hid (hno.out (by omega))
        clear hno hok
        go_wp2_with fail
        refine (implSealed_no A3 hb3 _).mono ?_
        rintro e w6 ⟨rfl, b6⟩
        have B6 := hid (below_via B5.out b6)
        clear b6 B5
        go_wp2
        go_ret2
        exact ⟨by rw [HR.out]; rfl, B6.out⟩
      · have hzz := sealOf_size A3
        go_wp2_with fail
        refine (implSealed_yes A3 hb3 _ (steps_on HT.out B5.out)).mono ?_
        rintro e w6 ⟨rfl, b6⟩
        rw [show (A3 ++ ⟨(four (sumOf A3.data.toList)).toArray⟩ : ByteArray) = sealOf A3 from rfl]
        have B6 := hid (below_via B5.out b6)
        clear b6 B5
        obtain ⟨Z, hZ⟩ : ∃ c : ByteArray, sealOf A3 = c := ⟨_, rfl⟩
        rw [hZ] at hok hzz ⊢
        clear hZ
        rcases Nat.lt_or_ge 19996 A3.size with hb4 | hb4
        · have HR := hid (hno.out hb4)
          have h20 : (20000 : Int) < (Z.size : Int) := by omega
          clear hno hok hzz z1 z2 z3
          go_wp2
          go_ret2
          exact ⟨by rw [HR.out]; rfl, B6.out⟩
        · have HR := hid (hok.out hb4)
          have h20 : ¬ (20000 : Int) < (Z.size : Int) := by omega
          clear hno hok hzz z1 z2 z3
          go_wp2
          go_ret2
          exact ⟨by rw [HR.out]; rfl, B6.out⟩
end Go.Proofs.YtihgkocfgjihhaaGreatDoor

namespace Go.Proofs.YtihgkocfgjihhaaGreatDoor
open Go.RowKit

theorem readConfI_info3 : (Tryz.prog.info? 3).map (fun i => (i.zero, i.size, i.bytes)) = some (some (.int .i64 0), 1, 8) := by kernel_rfl

set_option maxRecDepth 1000000 in
set_option maxHeartbeats 1000000 in
theorem implReadConf_any (s : ByteArray) (w : World) : Calls Tryz.prog 189 #[.string s] w fun e w' => readConfAns s w e w' := by
  obtain ⟨i0, hi, hz0, hz1, hz2⟩ := info_parts readConfI_info3
  by_cases hbig : 4 < s.size
  · have hbig' : 4 < (s.size : Int) := by omega
    have hno := hid (confOk_big (zs := intsOf s.data.toList) (by rw [intsOf_length]; simp; omega))
    go_enter Tryz.func189, Tryz.ntmps189
    go_wp2
    go_ret2
    exact readConf_none hno.out (World.ownsRow_made w #[] 0 (Nat.le_refl _) (Nat.zero_le _) rfl) (below_more (Below.refl _ _) _)
  have hbig' : ¬ 4 < (s.size : Int) := by omega
  go_enter Tryz.func189, Tryz.ntmps189
  go_wp2_with (at_make; refine wpList_make_own _ rfl _ _ 22 rfl w.heap.size 3 i0 (.int .i64 0) 1 Tryz.underlying22 hi hz0 hz1 _ _ _ s.size rfl rfl ?b1 ?b2 ?b3 ?b4 ?_)
  case b1 => omega
  case b2 => omega
  case b3 => unfold maxLen; omega
  intro w0 hown0 hgrow0
  have hb0 : Below w.heap.size w w0 := (Below.refl _ _).grown hgrow0 (Nat.le_refl _) (fun k h => by cases h)
  clear hgrow0
  go_wp2
  go_loopw [4, 5] (fun v i wr => ∃ (k : Nat), k ≤ s.size ∧ i = .int .i64 k ∧ wr.ownsRow w.heap.size 3 1 v k (intCells (intsOf (s.data.toList.take k))) ∧ Below w.heap.size w wr) (fun _ i _ => s.size - (intOf i).toNat)
  case atStart => exact ⟨0, Nat.zero_le _, rfl, hown0, hb0⟩
  case round =>
    obtain ⟨k, hk, rfl, hown, hb⟩ := hrel
    have hsz := hb.size
    clear hown0 hb0
    by_cases hlt : k < s.size
    · have c0 : (s[k].toNat : Int) ≤ 255 := by have := s[k].toNat_lt; omega
      have HTK : Hid (intsOf (s.data.toList.take (k + 1)) = intsOf (s.data.toList.take k) ++ [(s[k].toNat : Int)]) := intsOf_take s.data.toList k (by simpa using hlt)
      obtain ⟨x, hx⟩ : ∃ x : Nat, s[k].toNat = x := ⟨_, rfl⟩
      have HXk := hid hx
      rw [hx] at HTK
      clear hx
      go_wp2_with (at_builtin; refine wpList_append_own _ rfl (.tmp 19) (.tmp 24) 22 rfl w.heap.size 3 i0 (.int .i64 0) 1 8 Tryz.underlying22 hi hz0 hz1 hz2 rfl (by decide) _ _ _ rfl (hown.alloc _) ⟨wr.heap.size, 0, none⟩ 1 1 [.int .i64 (s[k].toNat : Int)] rfl rfl (one_new _ _ _) (by intro u hu; simp at hu; subst hu; rfl) (by unfold maxLen; omega) (by omega) (by simp; omega) ?_)
      intro v' w3 hown' hgrow _
      have R1 : Hid (w3.ownsRow w.heap.size 3 1 v' (k + 1) (intCells (intsOf (s.data.toList.take (k + 1))))) := by
        rw [HXk.out] at hown'
        rw [HTK.out]
        show w3.ownsRow w.heap.size 3 1 v' (k + 1) _
        simpa [intCells] using hown'
      have R2 : Hid (Below w.heap.size w w3) := (hb.alloc hb.size _).grown hgrow (by have := hb.size; simp; omega) (fun k hk => (hown.lt k hk).1)
      clear hown' hgrow hown hb
      go_wp2
      go_roundw
      case rel => exact ⟨k + 1, by omega, by go_num, R1.out, R2.out⟩
      case measure => simp [intOf]; omega
    · obtain rfl : k = s.size := by omega
      rw [List.take_of_length_le (by simp)] at hown
      have hil : (intsOf s.data.toList).length = s.size := by rw [intsOf_length]; simp
      obtain ⟨_, va, vc, hv, _⟩ := row_lie hown
      subst hv
      have HO := hid hown
      have cO' := implConfOk_any va (intsOf s.data.toList) vc (by omega) wr (ints_row hil hown)
      rw [hil] at cO'
      have HBB := hid hb
      clear hown hb
      cases hA : confOk (intsOf s.data.toList) with
      | false =>
        rw [hA] at cO'
        have cO := hid cO'
        have HA := hid hA
        clear cO' hA
        go_wp2_with (go_at_call 121; refine Calls.mono cO.out ?_; rintro e w1 ⟨rfl, b1⟩)
        have hsz1 := Nat.le_trans hsz b1.size
        go_ret2
        exact readConf_none HA.out (World.ownsRow_made w1 #[] 0 hsz1 (Nat.zero_le _) rfl) ((HBB.out.trans (b1.mono hsz)).alloc hsz1 _)
      | true =>
        rw [hA] at cO'
        have cO := hid cO'
        have HA := hid hA
        clear cO' hA
        go_wp2_with (go_at_call 121; refine Calls.mono cO.out ?_; rintro e w1 ⟨rfl, b1⟩)
        go_ret2
        exact readConf_some HA.out (kept_conf HO.out b1) (HBB.out.trans (b1.mono hsz))
end Go.Proofs.YtihgkocfgjihhaaGreatDoor

namespace Go.Proofs.YtihgkocfgjihhaaGreatDoor
open Go.RowKit

set_option maxRecDepth 1000000 in
set_option maxHeartbeats 1000000 in
theorem implFrame_yes (s : ByteArray) (h1 : 1 ≤ s.size) (hs : s.size ≤ 9000) (w : World) (ht : Steps w) :
    Calls Tryz.prog 127 #[.string s] w fun e w' => e = .returned (.tuple #[.string (frm s), .bool true]) ∧ Below w.heap.size w w' := by
  have HT := (show Hid _ from ht)
  have cV := (show Hid _ from implVarText_yes s.size (by omega))
  have cS' := fun w h => implSumOf_any s (by omega) w h
  have cF' := sumBytes_any (sumOf s.data.toList) (sumOf_lt _)
  have hvl := vb_le s.size
  have hfr : frm s = ⟨(vb s.size).toArray⟩ ++ ⟨(four (sumOf s.data.toList)).toArray⟩ ++ s := rfl
  rw [hfr]
  clear hfr
  obtain ⟨N, hN⟩ : ∃ N, sumOf s.data.toList = N := ⟨_, rfl⟩
  rw [hN] at cS' cF' ⊢
  have hfs : (⟨(four N).toArray⟩ : ByteArray).size = 4 := rfl
  have hvs : (⟨(vb s.size).toArray⟩ : ByteArray).size ≤ 9001 := by show (vb s.size).toArray.size ≤ 9001; simp; omega
  obtain ⟨V, hV⟩ : ∃ V : ByteArray, ⟨(vb s.size).toArray⟩ = V := ⟨_, rfl⟩
  obtain ⟨F, hF⟩ : ∃ F : ByteArray, ⟨(four N).toArray⟩ = F := ⟨_, rfl⟩
  rw [hV] at cV hvs ⊢
  rw [hF] at cF' hfs ⊢
  have cS := (show Hid _ from cS')
  have cF := (show Hid _ from cF')
  clear hN cS' cF' ht hV hF hvl
  go_enter Tryz.func127, Tryz.ntmps127
  go_wp2_with fail
  refine (cV.out _).mono ?_
  rintro e w1 ⟨rfl, b1⟩
  go_wp2_with fail
  refine (cS.out _ (steps_on HT.out b1)).mono ?_
  rintro e w2 ⟨rfl, hw⟩
  rw [hw]
  clear hw w2
  go_wp2_with fail
  refine (cF.out _).mono ?_
  rintro e w2 ⟨rfl, b2⟩
  have hvf : (V ++ F).size ≤ 9005 := by rw [ByteArray.size_append]; omega
  go_wp2
  go_ret2
  exact ⟨rfl, b1.trans (b2.mono b1.size)⟩

theorem implFrame_no (s : ByteArray) (h : s.size < 1 ∨ 9000 < s.size) (w : World) :
    Calls Tryz.prog 127 #[.string s] w fun e w' => e = .returned (.tuple #[.string ByteArray.empty, .bool false]) ∧ Below w.heap.size w w' := by
  by_cases h1 : s.size < 1
  · go_enter Tryz.func127, Tryz.ntmps127
    go_wp2
    go_ret2
    exact ⟨rfl, Below.refl _ _⟩
  · have h2 : 9000 < s.size := by omega
    go_enter Tryz.func127, Tryz.ntmps127
    go_wp2
    go_ret2
    exact ⟨rfl, Below.refl _ _⟩
end Go.Proofs.YtihgkocfgjihhaaGreatDoor
