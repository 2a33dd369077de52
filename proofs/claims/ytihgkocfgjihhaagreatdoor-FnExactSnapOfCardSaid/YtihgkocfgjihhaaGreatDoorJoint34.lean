/-
  The walk of spec.ReadConf: what it answers.
  The walk of spec.ConfText: what it answers.
-/
import Derived.Test.YtihgkocfgjihhaaGreatDoorJoint33
import Derived.Test.YtihgkocfgjihhaaGreatDoorJoint1
namespace Go.Proofs.YtihgkocfgjihhaaGreatDoor
open Go.RowKit

theorem readConfS_info3 : (Tryz.prog.info? 3).map (fun i => (i.zero, i.size, i.bytes)) = some (some (.int .i64 0), 1, 8) := by kernel_rfl

set_option maxRecDepth 1000000 in
set_option maxHeartbeats 1000000 in
theorem specReadConf_any (s : ByteArray) (hs : s.size ≤ 1048576) (w : World) : Calls Tryz.prog 141 #[.string s] w fun e w' => readConfAns s w e w' := by
  obtain ⟨i0, hi, hz0, hz1, hz2⟩ := info_parts readConfS_info3
  go_enter Tryz.func141, Tryz.ntmps141
  go_wp2
  go_loopw [4, 5] (fun v i wr => ∃ (k : Nat), k ≤ s.size ∧ k ≤ 5 ∧ i = .int .i64 k ∧ wr.ownsRow w.heap.size 3 1 v k (intCells (intsOf (s.data.toList.take k))) ∧ Below w.heap.size w wr) (fun _ i _ => s.size - (intOf i).toNat)
  case atStart => exact ⟨0, Nat.zero_le _, by omega, rfl, World.ownsRow_made w #[] 0 (Nat.le_refl _) (Nat.zero_le _) rfl, (Below.refl _ _).alloc (Nat.le_refl _) _⟩
  case round =>
    obtain ⟨k, hk, hk5, rfl, hown, hb⟩ := hrel
    have hsz := hb.size
    by_cases hlt : k < s.size
    · by_cases hl5 : k ≤ 4
      · have c0 : (s[k].toNat : Int) ≤ 255 := by have := s[k].toNat_lt; omega
        have HTK : Hid (intsOf (s.data.toList.take (k + 1)) = intsOf (s.data.toList.take k) ++ [(s[k].toNat : Int)]) := intsOf_take s.data.toList k (by simpa using hlt)
        obtain ⟨x, hx⟩ : ∃ x : Nat, s[k].toNat = x := ⟨_, rfl⟩
        have HXk := hid hx
        rw [hx] at HTK
        clear hx
        go_wp2_with (at_builtin; refine wpList_append_own _ rfl (.tmp 17) (.tmp 22) 22 rfl w.heap.size 3 i0 (.int .i64 0) 1 8 Tryz.underlying22 hi hz0 hz1 hz2 rfl (by decide) _ _ _ rfl (hown.alloc _) ⟨wr.heap.size, 0, none⟩ 1 1 [.int .i64 (s[k].toNat : Int)] rfl rfl (one_new _ _ _) (by intro u hu; simp at hu; subst hu; rfl) (by unfold maxLen; omega) (by omega) (by simp; omega) ?_)
        intro v' w3 hown' hgrow _
        have R1 : Hid (w3.ownsRow w.heap.size 3 1 v' (k + 1) (intCells (intsOf (s.data.toList.take (k + 1))))) := by
          rw [HXk.out] at hown'
          rw [HTK.out]
          show w3.ownsRow w.heap.size 3 1 v' (k + 1) _
          simpa [intCells] using hown'
        have R2 : Hid (Below w.heap.size w w3) := (hb.alloc hb.size _).grown hgrow (by have := hb.size; simp; omega) (fun k hk => (hown.lt k hk).1)
        clear hown' hgrow hown hb
        go_wp2
        go_roundw
        case rel => exact ⟨k + 1, by omega, by omega, by go_num, R1.out, R2.out⟩
        case measure => simp [intOf]; omega
      · obtain rfl : k = 5 := by omega
        have hl5' : ¬ ((5 : Nat) : Int) ≤ 4 := by omega
        obtain ⟨_, va, vc, hv, _⟩ := row_lie hown
        subst hv
        have hno := hid (confOk_big (zs := intsOf s.data.toList) (by rw [intsOf_length]; simp; omega))
        have hne : ((5 : Int) == (s.size : Int)) = false := by rw [beq_eq_false_iff_ne]; omega
        clear hown
        go_wp2
        go_ret2
        exact readConf_none hno.out (World.ownsRow_made wr #[] 0 hsz (Nat.zero_le _) rfl) (hb.alloc hsz _)
    · obtain rfl : k = s.size := by omega
      rw [List.take_of_length_le (by simp)] at hown
      have hil : (intsOf s.data.toList).length = s.size := by rw [intsOf_length]; simp
      obtain ⟨_, va, vc, hv, _⟩ := row_lie hown
      subst hv
      have HO := hid hown
      have cO' := specConfOk_any va (intsOf s.data.toList) vc (by omega) wr (ints_row hil hown)
      rw [hil] at cO'
      have HBB := hid hb
      clear hown hb
      cases hA : confOk (intsOf s.data.toList) with
      | false =>
        rw [hA] at cO'
        have cO := hid cO'
        have HA := hid hA
        clear cO' hA
        go_wp2_with (go_at_call 113; refine Calls.mono cO.out ?_; rintro e w1 ⟨rfl, b1⟩)
        have hsz1 := Nat.le_trans hsz b1.size
        go_ret2
        exact readConf_none HA.out (World.ownsRow_made w1 #[] 0 hsz1 (Nat.zero_le _) rfl) ((HBB.out.trans (b1.mono hsz)).alloc hsz1 _)
      | true =>
        rw [hA] at cO'
        have cO := hid cO'
        have HA := hid hA
        clear cO' hA
        go_wp2_with (go_at_call 113; refine Calls.mono cO.out ?_; rintro e w1 ⟨rfl, b1⟩)
        go_ret2
        exact readConf_some HA.out (kept_conf HO.out b1) (HBB.out.trans (b1.mono hsz))
end Go.Proofs.YtihgkocfgjihhaaGreatDoor

namespace Go.Proofs.YtihgkocfgjihhaaGreatDoor
open Go.RowKit

theorem conf_info5 : (Tryz.prog.info? 5).map (fun i => (i.zero, i.size, i.bytes)) = some (some (.int .u8 0), 1, 1) := by kernel_rfl

set_option maxRecDepth 1000000 in
set_option maxHeartbeats 1000000 in
theorem specConfText_any (ao : Option Addr) (zs : List Int) (cap : Nat) (hl : zs.length ≤ 1048576) (w : World) (hz : IntsAt w ao zs) :
    Calls Tryz.prog 59 #[.slice ao zs.length cap] w fun e w' => e = .returned (.tuple #[.string (confText zs).1, .bool (confText zs).2]) ∧ Below w.heap.size w w' := by
  obtain ⟨i0, hi, hz0, hz1, hz2⟩ := info_parts conf_info5
  have HZ := hid hz
  have cO' := specConfOk_any ao zs cap hl w hz
  clear hz
  cases hA : confOk zs with
  | false =>
    rw [hA] at cO'
    have cO := hid cO'
    have HT := hid (confText_no hA)
    clear cO' hA
    go_enter Tryz.func59, Tryz.ntmps59
    go_wp2_with fail
    refine Calls.mono cO.out ?_
    rintro e w1 ⟨rfl, b1⟩
    go_wp2
    go_ret2
    exact ⟨by rw [HT.out]; rfl, b1⟩
  | true =>
    rw [hA] at cO'
    have cO := hid cO'
    have HT := hid (confText_yes hA)
    have h4 := confOk_len hA
    have HAT : Hid (∀ k (hk : k < zs.length), 1 ≤ zs[k] ∧ zs[k] ≤ 4) := fun k hk => confOk_at hA hk
    clear cO' hA
    go_enter Tryz.func59, Tryz.ntmps59
    go_wp2_with fail
    refine Calls.mono cO.out ?_
    rintro e w1 ⟨rfl, b1⟩
    have B1 := hid b1
    clear b1 cO
    go_wp2
    go_loopw [4, 5] (fun v i wr => ∃ (k : Nat), k ≤ zs.length ∧ i = .int .i64 k ∧ wr.ownsRow w1.heap.size 5 1 v k (cs (confBytes (zs.take k))) ∧ Below w1.heap.size w1 wr) (fun _ i _ => zs.length - (intOf i).toNat)
    case atStart => exact ⟨0, Nat.zero_le _, rfl, World.ownsRow_made w1 #[] 0 (Nat.le_refl _) (Nat.zero_le _) rfl, (Below.refl _ _).alloc (Nat.le_refl _) _⟩
    case round =>
      obtain ⟨k, hk, rfl, hown, hb⟩ := hrel
      have hsz := hb.size
      by_cases hlt : k < zs.length
      · have hne : zs ≠ [] := by intro e; rw [e] at hlt; simp at hlt
        obtain ⟨b, off, rfl, hc⟩ := (HZ.out.on (below_via B1.out hb)) hne
        have x0 := hc k hlt
        have hx4 := HAT.out k hlt
        have HTK := hid (confBytes_take zs k hlt)
        obtain ⟨x, hx⟩ : ∃ x, zs[k] = x := ⟨_, rfl⟩
        rw [hx] at x0 hx4 HTK
        obtain ⟨y, rfl⟩ : ∃ y : Nat, x = y := ⟨x.toNat, by omega⟩
        clear hc hx
        go_wp2_with (at_builtin; refine wpList_append_own _ rfl (.tmp 16) (.tmp 22) 112 rfl w1.heap.size 5 i0 (.int .u8 0) 1 1 Tryz.underlying112 hi hz0 hz1 hz2 rfl (by decide) _ _ _ rfl (hown.alloc _) ⟨wr.heap.size, 0, none⟩ 1 1 [.int .u8 (y : Int)] rfl rfl (one_new _ _ _) (by intro u hu; simp at hu; subst hu; rfl) (by unfold maxLen; omega) (by omega) (by simp; omega) ?_)
        intro v' w3 hown' hgrow _
        have R1 : Hid (w3.ownsRow w1.heap.size 5 1 v' (k + 1) (cs (confBytes (zs.take (k + 1))))) := by
          rw [HTK.out, cs_append]
          rw [cs_one (x := (y : Int)) (by omega) (by omega)] at hown'
          exact hown'
        have R2 : Hid (Below w1.heap.size w1 w3) := (hb.alloc hb.size _).grown hgrow (by have := hb.size; simp; omega) (fun k hk => (hown.lt k hk).1)
        clear hown' hgrow hown hb
        go_wp2
        go_roundw
        case rel => exact ⟨k + 1, by omega, by go_num, R1.out, R2.out⟩
        case measure => simp [intOf]; omega
      · obtain rfl : k = zs.length := by omega
        rw [List.take_length] at hown
        have hcv := text_of_row (P := Tryz.prog) (l := confBytes zs) Tryz.underlying112 Tryz.underlying5 Tryz.underlying9 (by rw [confBytes_length]; exact hown)
        obtain ⟨_, va, vc, hv, _⟩ := row_lie hown
        subst hv
        have BB := hid (below_via B1.out hb)
        clear hown hb
        go_wp2
        go_ret2
        exact ⟨by rw [HT.out]; rfl, BB.out⟩
end Go.Proofs.YtihgkocfgjihhaaGreatDoor
