/-
  The walk of impl.ReadConf: what it answers.
-/
import Derived.Test.YtihgkocfgjihhaaGreatDoorJoint39
import Derived.Test.YtihgkocfgjihhaaGreatDoorJoint1
import Derived.OwnWalk
namespace Go.Proofs.YtihgkocfgjihhaaGreatDoor
open Go.RowKit

theorem readConfI_info3 : (Tryz.prog.info? 3).map (fun i => (i.zero, i.size, i.bytes)) = some (some (.int .i64 0), 1, 8) := by kernel_rfl

set_option maxRecDepth 1000000 in
set_option maxHeartbeats 1000000 in
theorem implReadConf_any (s : ByteArray) (w : World) : Calls Tryz.prog 189 #[.string s] w fun e w' => readConfAns s w e w' := by
  obtain ⟨i0, hi, hz0, hz1, hz2⟩ := info_parts readConfI_info3
  by_cases hbig : 4 < s.size
  · have hbig' : 4 < (s.size : Int) := by omega
    have hno := hid (confOk_big (zs := intsOf s.data.toList) (by rw [intsOf_length]; simp; omega))
    go_enter Tryz.func189, Tryz.ntmps189
    go_wp2
    go_ret2
    exact readConf_none hno.out (World.ownsRow_made w #[] 0 (Nat.le_refl _) (Nat.zero_le _) rfl) (below_more (Below.refl _ _) _)
  have hbig' : ¬ 4 < (s.size : Int) := by omega
  go_enter Tryz.func189, Tryz.ntmps189
  go_wp2_with (at_make; refine wpList_make_own _ rfl _ _ 22 rfl w.heap.size 3 i0 (.int .i64 0) 1 Tryz.underlying22 hi hz0 hz1 _ _ _ s.size rfl rfl ?b1 ?b2 ?b3 ?b4 ?_)
  case b1 => omega
  case b2 => omega
  case b3 => unfold maxLen; omega
  intro w0 hown0 hgrow0
  have hb0 : Below w.heap.size w w0 := (Below.refl _ _).grown hgrow0 (Nat.le_refl _) (fun k h => by cases h)
  clear hgrow0
  go_wp2
  go_loopw [4, 5] (fun v i wr => ∃ (k : Nat), k ≤ s.size ∧ i = .int .i64 k ∧ wr.ownsRow w.heap.size 3 1 v k (intCells (intsOf (s.data.toList.take k))) ∧ Below w.heap.size w wr) (fun _ i _ => s.size - (intOf i).toNat)
  case atStart => exact ⟨0, Nat.zero_le _, rfl, hown0, hb0⟩
  case round =>
    obtain ⟨k, hk, rfl, hown, hb⟩ := hrel
    have hsz := hb.size
    clear hown0 hb0
    by_cases hlt : k < s.size
    · have c0 : (s[k].toNat : Int) ≤ 255 := by have := s[k].toNat_lt; omega
      have HTK : Hid (intsOf (s.data.toList.take (k + 1)) = intsOf (s.data.toList.take k) ++ [(s[k].toNat : Int)]) := intsOf_take s.data.toList k (by simpa using hlt)
      obtain ⟨x, hx⟩ : ∃ x : Nat, s[k].toNat = x := ⟨_, rfl⟩
      have HXk := hid hx
      rw [hx] at HTK
      clear hx
      go_wp2_with (at_builtin; refine wpList_append_own _ rfl (.tmp 19) (.tmp 24) 22 rfl w.heap.size 3 i0 (.int .i64 0) 1 8 Tryz.underlying22 hi hz0 hz1 hz2 rfl (by decide) _ _ _ rfl (hown.alloc _) ⟨wr.heap.size, 0, none⟩ 1 1 [.int .i64 (s[k].toNat : Int)] rfl rfl (one_new _ _ _) (by intro u hu; simp at hu; subst hu; rfl) (by unfold maxLen; omega) (by omega) (by simp; omega) ?_)
      intro v' w3 hown' hgrow _
      have R1 : Hid (w3.ownsRow w.heap.size 3 1 v' (k + 1) (intCells (intsOf (s.data.toList.take (k + 1))))) := by
        rw [HXk.out] at hown'
        rw [HTK.out]
        show w3.ownsRow w.heap.size 3 1 v' (k + 1) _
        simpa [intCells] using hown'
      have R2 : Hid (Below w.heap.size w w3) := (hb.alloc hb.size _).grown hgrow (by have := hb.size; simp; omega) (fun k hk => (hown.lt k hk).1)
      clear hown' hgrow hown hb
      go_wp2
      go_roundw
      case rel => exact ⟨k + 1, by omega, by go_num, R1.out, R2.out⟩
      case measure => simp [intOf]; omega
    · obtain rfl : k = s.size := by omega
      rw [List.take_of_length_le (by simp)] at hown
      have hil : (intsOf s.data.toList).length = s.size := by rw [intsOf_length]; simp
      obtain ⟨_, va, vc, hv, _⟩ := row_lie hown
      subst hv
      have HO := hid hown
      have cO' := implConfOk_any va (intsOf s.data.toList) vc (by omega) wr (ints_row hil hown)
      rw [hil] at cO'
      have HBB := hid hb
      clear hown hb
      cases hA : confOk (intsOf s.data.toList) with
      | false =>
        rw [hA] at cO'
        have cO := hid cO'
        have HA := hid hA
        clear cO' hA
        go_wp2_with (go_at_call 121; refine Calls.mono cO.out ?_; rintro e w1 ⟨rfl, b1⟩)
        have hsz1 := Nat.le_trans hsz b1.size
        go_ret2
        exact readConf_none HA.out (World.ownsRow_made w1 #[] 0 hsz1 (Nat.zero_le _) rfl) ((HBB.out.trans (b1.mono hsz)).alloc hsz1 _)
      | true =>
        rw [hA] at cO'
        have cO := hid cO'
        have HA := hid hA
        clear cO' hA
        go_wp2_with (go_at_call 121; refine Calls.mono cO.out ?_; rintro e w1 ⟨rfl, b1⟩)
        go_ret2
        exact readConf_some HA.out (kept_conf HO.out b1) (HBB.out.trans (b1.mono hsz))
end Go.Proofs.YtihgkocfgjihhaaGreatDoor
