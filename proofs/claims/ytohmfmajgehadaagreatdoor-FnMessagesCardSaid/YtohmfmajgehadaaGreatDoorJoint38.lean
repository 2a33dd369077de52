/-
  The walk of impl.Encode: what it answers.
  The walk of impl.ReadVar: what it answers.
-/
import Derived.Test.YtohmfmajgehadaaGreatDoorJoint34
import Derived.Test.YtohmfmajgehadaaGreatDoorJoint37
import Derived.Test.YtohmfmajgehadaaGreatDoorRows
import Derived.Test.YtohmfmajgehadaaGreatDoorJoint1
import Derived.WalkKit
namespace Go.Proofs.YtohmfmajgehadaaGreatDoor
open Go.RowKit

set_option maxRecDepth 1000000 in
set_option maxHeartbeats 1000000 in
theorem implEncode_any (d : MsgD) (ao : Option Addr) (ac : Nat) (bo : Option Addr) (bc : Nat) (hs : d.Small) (w : World) (ha : EntsAt w ao d.ents) (hb : IntsAt w bo d.conf) :
    Calls Tryz.prog 13 #[.agg #[.int .i64 d.kind, .int .i64 d.src, .int .i64 d.dst, .int .i64 d.term, .int .i64 d.index, .int .i64 d.logTerm, .int .i64 d.commit, .bool d.ok, .slice ao d.ents.length ac, .slice bo d.conf.length bc, .string d.data, .bool d.last]] w fun e w' => e = .returned (encAns d) ∧ Below w.heap.size w w' := by
  have hX := below_more (Below.refl w.heap.size w) (.cells #[.int .i64 d.kind, .int .i64 d.src, .int .i64 d.dst, .int .i64 d.term, .int .i64 d.index, .int .i64 d.logTerm, .int .i64 d.commit, .bool d.ok, .slice ao d.ents.length ac, .slice bo d.conf.length bc, .string d.data, .bool d.last] 39)
  have HB := hid hX
  have HX : Hid (BlockIs (w.alloc (.cells #[.int .i64 d.kind, .int .i64 d.src, .int .i64 d.dst, .int .i64 d.term, .int .i64 d.index, .int .i64 d.logTerm, .int .i64 d.commit, .bool d.ok, .slice ao d.ents.length ac, .slice bo d.conf.length bc, .string d.data, .bool d.last] 39)) w.heap.size 39 [.int .i64 d.kind, .int .i64 d.src, .int .i64 d.dst, .int .i64 d.term, .int .i64 d.index, .int .i64 d.logTerm, .int .i64 d.commit, .bool d.ok, .slice ao d.ents.length ac, .slice bo d.conf.length bc, .string d.data, .bool d.last]) := heap_alloc_new w _
  obtain ⟨W, hW⟩ : ∃ W, w.alloc (.cells #[.int .i64 d.kind, .int .i64 d.src, .int .i64 d.dst, .int .i64 d.term, .int .i64 d.index, .int .i64 d.logTerm, .int .i64 d.commit, .bool d.ok, .slice ao d.ents.length ac, .slice bo d.conf.length bc, .string d.data, .bool d.last] 39) = W := ⟨_, rfl⟩
  rw [hW] at HB HX hX
  have HA := hid ha
  have HI := hid hb
  have c0 := HX.out.cell (j := 0) rfl
  have c1 := HX.out.cell (j := 1) rfl
  have c2 := HX.out.cell (j := 2) rfl
  have c3 := HX.out.cell (j := 3) rfl
  have c4 := HX.out.cell (j := 4) rfl
  have c5 := HX.out.cell (j := 5) rfl
  have c6 := HX.out.cell (j := 6) rfl
  have c7 := HX.out.cell (j := 7) rfl
  have c8 := HX.out.cell (j := 8) rfl
  have c9 := HX.out.cell (j := 9) rfl
  have c10 := HX.out.cell (j := 10) rfl
  have c11 := HX.out.cell (j := 11) rfl
  have cO' := fun w ha hb => implMessageOk_any d ao ac bo bc hs w ha hb
  clear ha hb hX
  cases hok : messageOk d with
  | false =>
    rw [hok] at cO'
    have cO := hid cO'
    have HN : Hid (encAns d = .tuple #[.string ByteArray.empty, .bool false]) := (show _ = _ by rw [encAns, hok]; exact if_neg (by simp))
    clear cO' hok
    go_enter Tryz.func13, Tryz.ntmps13
    go_wp2_with fail
    refine (cO.out _ (HA.out.on HB.out) (HI.out.on HB.out)).mono ?_
    rintro e w2 ⟨rfl, b2⟩
    have B2 := hid (below_via HB.out b2)
    clear b2 cO
    go_wp2
    go_ret2
    exact ⟨by rw [HN.out]; rfl, B2.out⟩
  | true =>
    have HR := hid (messageOk_facts hok)
    rw [hok] at cO'
    have cO := hid cO'
    have HN : Hid (encAns d = .tuple #[.string (msgText d), .bool true]) := (show _ = _ by rw [encAns, hok]; exact if_pos rfl)
    clear cO' hok
    go_enter Tryz.func13, Tryz.ntmps13
    go_wp2_with fail
    refine (cO.out _ (HA.out.on HB.out) (HI.out.on HB.out)).mono ?_
    rintro e w2 ⟨rfl, b2⟩
    have X2 := HX.out.on b2 HX.out.lt
    have B2 := below_via HB.out b2
    have l2 := X2.lt
    have hba := below_more (Below.refl w2.heap.size w2) (.cells #[.slice none 0 0, .int .i64 0, .int .i8 0] 77)
    have W3 := hid (wr_new w2 (w.heap.size + 1) l2)
    have X3 := hid (X2.on hba l2)
    have B3 := hid (B2.trans (hba.mono B2.size))
    have S3 : Hid (w.heap.size + 1 ≤ (w2.alloc (.cells #[.slice none 0 0, .int .i64 0, .int .i8 0] 77)).heap.size) := Nat.le_trans l2 hba.size
    obtain ⟨q, hq2⟩ : ∃ q, w2.heap.size = q := ⟨_, rfl⟩
    rw [hq2] at W3
    obtain ⟨u, hu⟩ : ∃ W, w2.alloc (.cells #[.slice none 0 0, .int .i64 0, .int .i8 0] 77) = W := ⟨_, rfl⟩
    rw [hu] at W3 X3 B3 S3
    clear b2 c0 c1 c2 c3 c4 c5 c6 c7 c8 c9 c10 c11 HX HB hW X2 B2 hba l2 cO
    have c0 := X3.out.cell (j := 0) rfl
    have c1 := X3.out.cell (j := 1) rfl
    have c2 := X3.out.cell (j := 2) rfl
    have c3 := X3.out.cell (j := 3) rfl
    have c4 := X3.out.cell (j := 4) rfl
    have c5 := X3.out.cell (j := 5) rfl
    have c6 := X3.out.cell (j := 6) rfl
    have c7 := X3.out.cell (j := 7) rfl
    have c8 := X3.out.cell (j := 8) rfl
    have c9 := X3.out.cell (j := 9) rfl
    have c10 := X3.out.cell (j := 10) rfl
    have c11 := X3.out.cell (j := 11) rfl
    go_wp2_with fail
    refine (wrMessage_on w (w.heap.size + 1) q d HR.out ao ac bo bc u B3.out (Nat.le_succ _) HA.out HI.out W3.out S3.out).mono ?_
    rintro e w4 ⟨rfl, hw4, b4⟩
    have cS := hid (string_on (w.heap.size + 1) q _ w4 hw4)
    have B4 := hid b4
    rw [show (⟨(msgL d).toArray⟩ : ByteArray) = msgText d from rfl] at cS
    obtain ⟨T, hT⟩ : ∃ T, msgText d = T := ⟨_, rfl⟩
    rw [hT] at cS HN
    clear hT hw4 b4 W3 X3 B3 S3 c0 c1 c2 c3 c4 c5 c6 c7 c8 c9 c10 c11
    go_wp2_with fail
    refine cS.out.mono ?_
    rintro e w10 ⟨rfl, b10⟩
    have B10 := hid (below_via B4.out b10)
    clear b10 cS
    go_wp2
    go_ret2
    exact ⟨by rw [HN.out]; rfl, B10.out⟩
end Go.Proofs.YtohmfmajgehadaaGreatDoor

namespace Go.Proofs.YtohmfmajgehadaaGreatDoor
open Go.RowKit

set_option maxHeartbeats 1000000 in
set_option maxRecDepth 1000000 in
theorem implReadVar_in (s : ByteArray) (a : Nat) (ha : a ≤ s.size) (hs : s.size ≤ 140737488355328) (w : World) :
    Calls Tryz.prog 129 #[.string s, .int .i64 a] w fun e w' => e = .returned (rvAns a (rv (s.data.toList.drop a))) ∧ w' = w := by
  go_enter Tryz.func129, Tryz.ntmps129
  go_wp2
  go_loop [7, 8, 9] (fun n g i => ∃ (k W : Nat) (p : List UInt8), RvAt s a k p ∧ i = .int .i64 k ∧ n = .int .i64 (val p) ∧ g = .int .i64 W ∧ Hid (W = 128 ^ (k - a))) (fun _ _ i => a + 5 - (intOf i).toNat)
  case atStart => exact ⟨a, 1, [], RvAt.start s a ha, rfl, rfl, rfl, by simp [Hid]⟩
  case round =>
    obtain ⟨k, W, p, hR, rfl, rfl, rfl, HW⟩ := hrel
    have k1 := hR.lo
    have k2 := hR.hi
    have k3 := hR.five
    by_cases hk : k < s.size
    · by_cases h5 : k < a + 5
      · have hbd := hR.bounds h5 s[k].toNat
        rw [← HW.out] at hbd
        obtain ⟨b1, b2, b3, b4⟩ := hbd
        have m0 : (0 : Int) ≤ (s[k].toNat : Int) % 128 * (W : Int) := by
          have : ((s[k].toNat % 128 * W : Nat) : Int) = (s[k].toNat : Int) % 128 * (W : Int) := by simp
          omega
        have m1 : (s[k].toNat : Int) % 128 * (W : Int) ≤ 34091302912 := by
          have : ((s[k].toNat % 128 * W : Nat) : Int) = (s[k].toNat : Int) % 128 * (W : Int) := by simp
          omega
        have c0 : (s[k].toNat : Int) ≤ 255 := by have := s[k].toNat_lt; omega
        have HV : Hid (((val (p ++ [s[k]]) : Nat) : Int) = (val p : Int) + (s[k].toNat : Int) % 128 * (W : Int)) := hR.val_step HW.out s[k]
        by_cases hb : 127 < (s[k].toNat : Int)
        · go_wp2
          go_round
          case rel => exact ⟨k + 1, W * 128, p ++ [s[k]], hR.step hk h5 (by omega), by go_num, by rw [HV.out], by go_num, hR.W_step HW.out⟩
          case measure => simp [intOf]; omega
        · by_cases hz : (s[k].toNat : Int) ≤ 0
          · by_cases hak : a < k
            · go_wp2
              go_ret3
              exact ⟨rvAns_none (hR.no hk h5 (by omega) (Or.inr ⟨zero_of_toNat hz, hak⟩)), rfl⟩
            · have hv : (val p : Int) + (s[k].toNat : Int) % 128 * (W : Int) ≤ 1000000000 := by
                have : val p = 0 := by have := hR.len; have e : p = [] := List.eq_nil_of_length_eq_zero (by omega); rw [e]; rfl
                have e : s[k].toNat = 0 := by omega
                rw [this, e]; simp
              have HZ : Hid (((val (p ++ [s[k]]) : Nat) : Int) = (val p : Int)) := by
                have e : (s[k].toNat : Int) = 0 := by omega
                show _ = _
                rw [HV.out, e]; simp
              go_wp2
              go_ret3
              exact ⟨rvAns_some (hR.yes hk h5 (by omega) (by have := HV.out; omega) (by omega)) k1 HZ.out rfl, rfl⟩
          · by_cases hv : 1000000000 < (val p : Int) + (s[k].toNat : Int) % 128 * (W : Int)
            · go_wp2
              go_ret3
              exact ⟨rvAns_none (hR.no hk h5 (by omega) (Or.inl (by have := HV.out; omega))), rfl⟩
            · go_wp2
              go_ret3
              exact ⟨rvAns_some (hR.yes hk h5 (by omega) (by have := HV.out; omega) (fun h => not_zero (by omega) h.1)) k1 HV.out rfl, rfl⟩
      · go_wp2
        go_ret3
        exact ⟨rvAns_none (hR.none_end (Or.inr (by omega))), rfl⟩
    · go_wp2
      go_ret3
      exact ⟨rvAns_none (hR.none_end (Or.inl (by omega))), rfl⟩

theorem implReadVar_out (s : ByteArray) (a : Int) (ha : a < 0 ∨ (s.size : Int) < a) (w : World) :
    Calls Tryz.prog 129 #[.string s, .int .i64 a] w fun e w' => e = .returned (.tuple #[.int .i64 0, .int .i64 0, .bool false]) ∧ w' = w := by
  by_cases h0 : a < 0
  · go_enter Tryz.func129, Tryz.ntmps129
    go_wp2
    go_ret3
    exact ⟨rfl, rfl⟩
  · have h1 : (s.size : Int) < a := by omega
    go_enter Tryz.func129, Tryz.ntmps129
    go_wp2
    go_ret3
    exact ⟨rfl, rfl⟩
end Go.Proofs.YtohmfmajgehadaaGreatDoor
