/-
  The walk of spec.ReadConf: what it answers.
  The walk of spec.EntryOk: what it answers.
-/
import Derived.Test.YtohmfmajgehadaaGreatDoorJoint7
import Derived.Test.YtohmfmajgehadaaGreatDoorJoint1
namespace Go.Proofs.YtohmfmajgehadaaGreatDoor
open Go.RowKit

theorem readConfS_info3 : (Tryz.prog.info? 3).map (fun i => (i.zero, i.size, i.bytes)) = some (some (.int .i64 0), 1, 8) := by kernel_rfl

set_option maxRecDepth 1000000 in
set_option maxHeartbeats 1000000 in
theorem specReadConf_any (s : ByteArray) (hs : s.size ≤ 1048576) (w : World) : Calls Tryz.prog 54 #[.string s] w fun e w' => readConfAns s w e w' := by
  obtain ⟨i0, hi, hz0, hz1, hz2⟩ := info_parts readConfS_info3
  go_enter Tryz.func54, Tryz.ntmps54
  go_wp2
  go_loopw [4, 5] (fun v i wr => ∃ (k : Nat), k ≤ s.size ∧ k ≤ 5 ∧ i = .int .i64 k ∧ wr.ownsRow w.heap.size 3 1 v k (intCells (intsOf (s.data.toList.take k))) ∧ Below w.heap.size w wr) (fun _ i _ => s.size - (intOf i).toNat)
  case atStart => exact ⟨0, Nat.zero_le _, by omega, rfl, World.ownsRow_made w #[] 0 (Nat.le_refl _) (Nat.zero_le _) rfl, (Below.refl _ _).alloc (Nat.le_refl _) _⟩
  case round =>
    obtain ⟨k, hk, hk5, rfl, hown, hb⟩ := hrel
    have hsz := hb.size
    by_cases hlt : k < s.size
    · by_cases hl5 : k ≤ 4
      · have c0 : (s[k].toNat : Int) ≤ 255 := by have := s[k].toNat_lt; omega
        have HTK : Hid (intsOf (s.data.toList.take (k + 1)) = intsOf (s.data.toList.take k) ++ [(s[k].toNat : Int)]) := intsOf_take s.data.toList k (by simpa using hlt)
        obtain ⟨x, hx⟩ : ∃ x : Nat, s[k].toNat = x := ⟨_, rfl⟩
        have HXk := hid hx
        rw [hx] at HTK
        clear hx
        go_wp2_with (at_builtin; refine wpList_append_own _ rfl (.tmp 17) (.tmp 22) 36 rfl w.heap.size 3 i0 (.int .i64 0) 1 8 Tryz.underlying36 hi hz0 hz1 hz2 rfl (by decide) _ _ _ rfl (hown.alloc _) ⟨wr.heap.size, 0, none⟩ 1 1 [.int .i64 (s[k].toNat : Int)] rfl rfl (one_new _ _ _) (by intro u hu; simp at hu; subst hu; rfl) (by unfold maxLen; omega) (by omega) (by simp; omega) ?_)
        intro v' w3 hown' hgrow _
        have R1 : Hid (w3.ownsRow w.heap.size 3 1 v' (k + 1) (intCells (intsOf (s.data.toList.take (k + 1))))) := by
          rw [HXk.out] at hown'
          rw [HTK.out]
          show w3.ownsRow w.heap.size 3 1 v' (k + 1) _
          simpa [intCells] using hown'
        have R2 : Hid (Below w.heap.size w w3) := (hb.alloc hb.size _).grown hgrow (by have := hb.size; simp; omega) (fun k hk => (hown.lt k hk).1)
        clear hown' hgrow hown hb
        go_wp2
        go_roundw
        case rel => exact ⟨k + 1, by omega, by omega, by go_num, R1.out, R2.out⟩
        case measure => simp [intOf]; omega
      · obtain rfl : k = 5 := by omega
        have hl5' : ¬ ((5 : Nat) : Int) ≤ 4 := by omega
        obtain ⟨_, va, vc, hv, _⟩ := row_lie hown
        subst hv
        have hno := hid (confOk_big (zs := intsOf s.data.toList) (by rw [intsOf_length]; simp; omega))
        have hne : ((5 : Int) == (s.size : Int)) = false := by rw [beq_eq_false_iff_ne]; omega
        clear hown
        go_wp2
        go_ret2
        exact readConf_none hno.out (World.ownsRow_made wr #[] 0 hsz (Nat.zero_le _) rfl) (hb.alloc hsz _)
    · obtain rfl : k = s.size := by omega
      rw [List.take_of_length_le (by simp)] at hown
      have hil : (intsOf s.data.toList).length = s.size := by rw [intsOf_length]; simp
      obtain ⟨_, va, vc, hv, _⟩ := row_lie hown
      subst hv
      have HO := hid hown
      have cO' := specConfOk_any va (intsOf s.data.toList) vc (by omega) wr (ints_row hil hown)
      rw [hil] at cO'
      have HBB := hid hb
      clear hown hb
      cases hA : confOk (intsOf s.data.toList) with
      | false =>
        rw [hA] at cO'
        have cO := hid cO'
        have HA := hid hA
        clear cO' hA
        go_wp2_with (go_at_call 41; refine Calls.mono cO.out ?_; rintro e w1 ⟨rfl, b1⟩)
        have hsz1 := Nat.le_trans hsz b1.size
        go_ret2
        exact readConf_none HA.out (World.ownsRow_made w1 #[] 0 hsz1 (Nat.zero_le _) rfl) ((HBB.out.trans (b1.mono hsz)).alloc hsz1 _)
      | true =>
        rw [hA] at cO'
        have cO := hid cO'
        have HA := hid hA
        clear cO' hA
        go_wp2_with (go_at_call 41; refine Calls.mono cO.out ?_; rintro e w1 ⟨rfl, b1⟩)
        go_ret2
        exact readConf_some HA.out (kept_conf HO.out b1) (HBB.out.trans (b1.mono hsz))
end Go.Proofs.YtohmfmajgehadaaGreatDoor

namespace Go.Proofs.YtohmfmajgehadaaGreatDoor
open Go.RowKit

set_option maxRecDepth 1000000 in
set_option maxHeartbeats 1000000 in
theorem specEntryOk_any (d : EntD) (hd : d.data.size ≤ 1048576) (w : World) :
    Calls Tryz.prog 40 #[.agg #[.int .i64 d.term, .int .i64 d.kind, .string d.data]] w fun e w' => e = .returned (.bool (entryOk d)) ∧ Below w.heap.size w w' := by
  obtain ⟨tm, kd, dt⟩ := d
  dsimp only at hd ⊢
  have HB := hid (below_more (Below.refl w.heap.size w) (.cells #[.int .i64 tm, .int .i64 kd, .string dt] 57))
  have hx : BlockIs (w.alloc (.cells #[.int .i64 tm, .int .i64 kd, .string dt] 57)) w.heap.size 57 [.int .i64 tm, .int .i64 kd, .string dt] := heap_alloc_new w _
  obtain ⟨W, hW⟩ : ∃ W, w.alloc (.cells #[.int .i64 tm, .int .i64 kd, .string dt] 57) = W := ⟨_, rfl⟩
  rw [hW] at HB hx
  have c0 := hx.cell (j := 0) rfl
  have c1 := hx.cell (j := 1) rfl
  have c2 := hx.cell (j := 2) rfl
  have cN' := fun w => l01In_any tm 0 100000 w
  clear hx
  cases hA : within tm 0 100000 with
  | false =>
    have hr := hid (entryOk_term (e := ⟨tm, kd, dt⟩) hA)
    rw [hA] at cN'
    have cN := hid cN'
    clear cN' hA
    go_enter Tryz.func40, Tryz.ntmps40
    go_wp2_with (go_at_call 39; refine (cN.out _).mono ?_; rintro e w1 ⟨rfl, hw⟩; rw [hw]; clear hw w1)
    go_ret
    exact ⟨by rw [hr.out]; rfl, HB.out⟩
  | true =>
    rw [hA] at cN'
    have cN := hid cN'
    clear cN'
    by_cases k1 : kd = 1
    · have hr := hid (entryOk_one (e := ⟨tm, kd, dt⟩) hA k1)
      clear hA
      subst k1
      by_cases h0 : dt.size = 0
      · have hl : (dt.toList == []) = true := by
          rw [ByteArray.toList_eq, beq_iff_eq]
          exact List.eq_nil_of_length_eq_zero (by simpa using h0)
        go_enter Tryz.func40, Tryz.ntmps40
        go_wp2_with (go_at_call 39; refine (cN.out _).mono ?_; rintro e w1 ⟨rfl, hw⟩; rw [hw]; clear hw w1)
        go_ret
        exact ⟨by rw [hr.out]; simp [h0], HB.out⟩
      · have hl : (dt.toList == []) = false := by
          rw [ByteArray.toList_eq, beq_eq_false_iff_ne]
          intro e
          exact h0 (by simpa using congrArg List.length e)
        go_enter Tryz.func40, Tryz.ntmps40
        go_wp2_with (go_at_call 39; refine (cN.out _).mono ?_; rintro e w1 ⟨rfl, hw⟩; rw [hw]; clear hw w1)
        go_ret
        exact ⟨by rw [hr.out]; simp [h0], HB.out⟩
    · by_cases k2 : kd = 2
      · have hr := hid (entryOk_two (e := ⟨tm, kd, dt⟩) hA k2)
        have cR := hid (specReadConf_any dt hd W)
        clear hA k1
        subst k2
        go_enter Tryz.func40, Tryz.ntmps40
        go_wp2_with (first | (go_at_call 39; refine (cN.out _).mono ?_; rintro e w1 ⟨rfl, hw⟩; rw [hw]; clear hw w1) | (go_at_call 54; refine Calls.mono cR.out ?_; rintro e w2 ⟨v2, rfl, o2, b2⟩))
        go_ret
        exact ⟨by rw [hr.out]; rfl, below_via HB.out b2⟩
      · by_cases k3 : kd = 3
        · have hr := hid (entryOk_three (e := ⟨tm, kd, dt⟩) hA k3)
          clear hA k1 k2
          subst k3
          go_enter Tryz.func40, Tryz.ntmps40
          go_wp2_with (go_at_call 39; refine (cN.out _).mono ?_; rintro e w1 ⟨rfl, hw⟩; rw [hw]; clear hw w1)
          go_ret
          refine ⟨?_, HB.out⟩
          rw [hr.out]
          by_cases h120 : dt.size ≤ 120
          · have h2 : (dt.size : Int) ≤ 120 := by omega
            simp [h120, h2]
          · have h2 : ¬ (dt.size : Int) ≤ 120 := by omega
            simp [h120, h2]
        · have hr := hid (entryOk_else (e := ⟨tm, kd, dt⟩) hA k1 k2 k3)
          clear hA
          go_enter Tryz.func40, Tryz.ntmps40
          go_wp2_with (go_at_call 39; refine (cN.out _).mono ?_; rintro e w1 ⟨rfl, hw⟩; rw [hw]; clear hw w1)
          go_ret
          exact ⟨by rw [hr.out]; rfl, HB.out⟩
end Go.Proofs.YtohmfmajgehadaaGreatDoor
