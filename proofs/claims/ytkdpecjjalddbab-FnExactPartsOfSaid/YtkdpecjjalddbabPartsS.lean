/-
  The walk of spec.PartsOf: what it answers.
-/
import Derived.Test.YtkdpecjjalddbabRows
import Derived.Test.YtkdpecjjalddbabPlainParts
import Derived.WalkKit
namespace Go.Proofs.Ytkdpecjjalddbab
open Go.RowKit

theorem partsS_info9 : (Try.prog.info? 9).map (fun i => (i.zero, i.size, i.bytes)) = some (some (.string ByteArray.empty), 1, 16) := by kernel_rfl

/-- what PartsOf answers: the parts in a row of the call's own, or none -/
def partsAns (s : ByteArray) (w : World) (e : Ending) (w' : World) : Prop :=
  (PartsOk s ∧ ∃ v, e = .returned (.tuple #[v, .bool true]) ∧ w'.ownsRow w.heap.size 9 1 v (stt s (s.size + 1)).2.length (st (stt s (s.size + 1)).2) ∧ Below w.heap.size w w') ∨
  (¬ PartsOk s ∧ ∃ v, e = .returned (.tuple #[v, .bool false]) ∧ w'.ownsRow w.heap.size 9 1 v 0 (st []) ∧ Below w.heap.size w w')

set_option maxRecDepth 1000000 in
set_option maxHeartbeats 1000000 in
theorem specPartsOf_any (s : ByteArray) (hs : s.size ≤ 1048576) (w : World) : Calls Try.prog 13 #[.string s] w fun e w' => partsAns s w e w' := by
  obtain ⟨i0, hi, hz0, hz1, hz2⟩ := info_parts partsS_info9
  by_cases h6 : 600 < s.size
  · go_enter Try.func13, Try.ntmps13
    go_wp2
    go_ret2
    exact Or.inr ⟨fun h => by have := h.1; omega, _, rfl, World.ownsRow_made w #[] 0 (Nat.le_refl _) (Nat.zero_le _) rfl, (Below.refl _ _).alloc (Nat.le_refl _) _⟩
  · go_enter Try.func13, Try.ntmps13
    go_wp2
    go_loopw [4, 5, 6] (fun v b i wr => ∃ (k : Nat), k ≤ s.size + 1 ∧ i = .int .i64 k ∧ b = .int .i64 (stt s k).1 ∧ PlainL (s.data.toList.take k) ∧ wr.ownsRow w.heap.size 9 1 v (stt s k).2.length (st (stt s k).2) ∧ Below w.heap.size w wr) (fun _ _ i _ => s.size + 1 - (intOf i).toNat)
    case atStart => exact ⟨0, Nat.zero_le _, rfl, rfl, by simp [PlainL], World.ownsRow_made w #[] 0 (Nat.le_refl _) (Nat.zero_le _) rfl, (Below.refl _ _).alloc (Nat.le_refl _) _⟩
    case round =>
      obtain ⟨k, hk, rfl, rfl, hP, hown, hb⟩ := hrel
      have hsz := hb.size
      have HP := (show Hid _ from hP)
      clear hP
      obtain ⟨hb1, hb2⟩ := stt_bd s k
      by_cases hle : k ≤ s.size
      · by_cases hlt : k < s.size
        · have c0 : (s[k].toNat : Int) ≤ 255 := by have := s[k].toNat_lt; omega
          by_cases h1 : (s[k].toNat : Int) < 32
          · go_wp2
            go_ret2
            exact Or.inr ⟨fun h => not_plain hlt (Or.inl h1) h.2.1, _, rfl, World.ownsRow_made wr #[] 0 hsz (Nat.zero_le _) rfl, hb.alloc hsz _⟩
          · by_cases h2 : 126 < (s[k].toNat : Int)
            · go_wp2
              go_ret2
              exact Or.inr ⟨fun h => not_plain hlt (Or.inr h2) h.2.1, _, rfl, World.ownsRow_made wr #[] 0 hsz (Nat.zero_le _) rfl, hb.alloc hsz _⟩
            · have HP2 := (show Hid _ from PlainL.snoc hlt HP.out (by omega) (by omega))
              by_cases h3 : (s[k].toNat : Int) = 32
              · have h3' : ((s[k].toNat : Int) != 32) = false := by simp; omega
                have HB := (show Hid _ from blank_yes hlt h3)
                clear h3
                by_cases h4 : (stt s k).1 < k
                · have hsl := slice_nat (P := Try.prog) Try.underlying9 s (stt s k).1 k ((stt s k).1 : Int) (k : Int) rfl rfl (by omega) (by omega)
                  go_wp2_with (at_builtin; refine wpList_append_own _ rfl (.tmp 48) (.tmp 53) 27 rfl w.heap.size 9 i0 (.string ByteArray.empty) 1 16 Try.underlying27 hi hz0 hz1 hz2 rfl (by decide) _ _ _ rfl (hown.alloc _) ⟨wr.heap.size, 0, none⟩ 1 1 [.string (s.extract (stt s k).1 k)] rfl rfl (one_new _ _ _) (by intro u hu; simp at hu; subst hu; rfl) (by unfold maxLen; omega) (by omega) (by simp; omega) ?_)
                  intro v' w1 hown' hgrow _
                  have R := part_step (Nat.le_refl _) HB.out h4 hown hown' hgrow hb
                  have HS := (show Hid _ from stt_part HB.out h4)
                  clear hown' hgrow hown hb
                  go_wp2
                  go_roundw
                  case rel => exact ⟨k + 1, by omega, by go_num, by rw [HS.out]; go_num, HP2.out, R.1, R.2⟩
                  case measure => simp [intOf]; omega
                · have HS := (show Hid _ from stt_none HB.out h4)
                  go_wp2
                  go_roundw
                  case rel => exact ⟨k + 1, by omega, by go_num, by rw [HS.out]; go_num, HP2.out, by rw [HS.out]; exact hown, hb⟩
                  case measure => simp [intOf]; omega
              · have h3' : ((s[k].toNat : Int) != 32) = true := by simp; omega
                have HB := (show Hid _ from stt_on (blank_no hlt h3))
                clear h3
                go_wp2
                go_roundw
                case rel => exact ⟨k + 1, by omega, by go_num, by rw [HB.out], HP2.out, by rw [HB.out]; exact hown, hb⟩
                case measure => simp [intOf]; omega
        · have HB := (show Hid _ from blank_end hlt)
          have HP2 : Hid (PlainL (s.data.toList.take (k + 1))) := by
            have e1 : s.data.toList.take (k + 1) = s.data.toList := List.take_of_length_le (by simp; omega)
            have e2 : s.data.toList.take k = s.data.toList := List.take_of_length_le (by simp; omega)
            have := HP.out
            rw [e2] at this
            rw [e1]
            exact this
          by_cases h4 : (stt s k).1 < k
          · have hsl := slice_nat (P := Try.prog) Try.underlying9 s (stt s k).1 k ((stt s k).1 : Int) (k : Int) rfl rfl (by omega) (by omega)
            go_wp2_with (at_builtin; refine wpList_append_own _ rfl (.tmp 48) (.tmp 53) 27 rfl w.heap.size 9 i0 (.string ByteArray.empty) 1 16 Try.underlying27 hi hz0 hz1 hz2 rfl (by decide) _ _ _ rfl (hown.alloc _) ⟨wr.heap.size, 0, none⟩ 1 1 [.string (s.extract (stt s k).1 k)] rfl rfl (one_new _ _ _) (by intro u hu; simp at hu; subst hu; rfl) (by unfold maxLen; omega) (by omega) (by simp; omega) ?_)
            intro v' w1 hown' hgrow _
            have R := part_step (Nat.le_refl _) HB.out h4 hown hown' hgrow hb
            have HS := (show Hid _ from stt_part HB.out h4)
            clear hown' hgrow hown hb
            go_wp2
            go_roundw
            case rel => exact ⟨k + 1, by omega, by go_num, by rw [HS.out]; go_num, HP2.out, R.1, R.2⟩
            case measure => simp [intOf]; omega
          · have HS := (show Hid _ from stt_none HB.out h4)
            go_wp2
            go_roundw
            case rel => exact ⟨k + 1, by omega, by go_num, by rw [HS.out]; go_num, HP2.out, by rw [HS.out]; exact hown, hb⟩
            case measure => simp [intOf]; omega
      · have e : k = s.size + 1 := by omega
        have HP2 : Hid (PlainL s.data.toList) := by
          have e2 : s.data.toList.take k = s.data.toList := List.take_of_length_le (by simp; omega)
          have := HP.out
          rw [e2] at this
          exact this
        have HO : Hid (wr.ownsRow w.heap.size 9 1 u4 (stt s (s.size + 1)).2.length (st (stt s (s.size + 1)).2)) := by rw [e] at hown; exact hown
        obtain ⟨n, hn⟩ : ∃ n, n = (stt s (s.size + 1)).2.length := ⟨_, rfl⟩
        obtain ⟨_, ao, cap, hv, _⟩ := row_lie HO.out
        rw [← hn] at hv
        have HN := (show Hid _ from hn)
        have HV := (show Hid _ from hv)
        subst hv
        clear hown hn e
        by_cases h10 : 10 < (n : Int)
        · go_wp2
          go_ret2
          exact Or.inr ⟨fun h => by have := h.2.2; have := HN.out; omega, _, rfl, World.ownsRow_made wr #[] 0 hsz (Nat.zero_le _) rfl, hb.alloc hsz _⟩
        · go_wp2
          go_ret2
          exact Or.inl ⟨⟨by omega, HP2.out, by have := HN.out; omega⟩, _, rfl, HO.out, hb⟩
end Go.Proofs.Ytkdpecjjalddbab
