/-
  The walk of impl.PartsOf: what it answers.
-/
import Derived.Test.YtkdpecjjalddbabPartsS
import Derived.Test.YtkdpecjjalddbabClone
namespace Go.Proofs.Ytkdpecjjalddbab
open Go.RowKit

set_option maxRecDepth 1000000 in
theorem plainLine_any (s : ByteArray) (hs : s.size ≤ 600) (w : World) :
    Calls Try.prog 22 #[.string s] w fun e w' => ((PlainL s.data.toList ∧ e = .returned (.bool true)) ∨ (¬ PlainL s.data.toList ∧ e = .returned (.bool false))) ∧ w' = w := by
  go_enter Try.func22, Try.ntmps22
  go_wp2
  go_loop [3] (fun i => ∃ (k : Nat), k ≤ s.size ∧ i = .int .i64 k ∧ PlainL (s.data.toList.take k)) (fun i => s.size - (intOf i).toNat)
  case atStart => exact ⟨0, Nat.zero_le _, rfl, by simp [PlainL]⟩
  case round =>
    obtain ⟨k, hk, rfl, hP⟩ := hrel
    have HP := (show Hid _ from hP)
    clear hP
    by_cases hlt : k < s.size
    · have c0 : (s[k].toNat : Int) ≤ 255 := by have := s[k].toNat_lt; omega
      by_cases h1 : (s[k].toNat : Int) < 32
      · go_wp2
        go_ret
        exact ⟨Or.inr ⟨not_plain hlt (Or.inl h1), rfl⟩, rfl⟩
      · by_cases h2 : 126 < (s[k].toNat : Int)
        · go_wp2
          go_ret
          exact ⟨Or.inr ⟨not_plain hlt (Or.inr h2), rfl⟩, rfl⟩
        · have HP2 := (show Hid _ from PlainL.snoc hlt HP.out (by omega) (by omega))
          go_wp2
          go_round
          case rel => exact ⟨k + 1, by omega, by go_num, HP2.out⟩
          case measure => simp [intOf]; omega
    · have HP2 : Hid (PlainL s.data.toList) := by
        have e2 : s.data.toList.take k = s.data.toList := List.take_of_length_le (by simp; omega)
        have := HP.out
        rw [e2] at this
        exact this
      go_wp2
      go_ret
      exact ⟨Or.inl ⟨HP2.out, rfl⟩, rfl⟩

theorem part_stepI {s : ByteArray} {k : Nat} {w wr w2 w1 : World} {v v' : Value} {B : Obj} (hbl : blankAt s k = true) (hlt : (stt s k).1 < k) (hown : w2.ownsRow w.heap.size 9 1 v (stt s k).2.length (st (stt s k).2))
    (hown' : w1.ownsRow w.heap.size 9 1 v' ((stt s k).2.length + 1) (st (stt s k).2 ++ [.string (s.extract (stt s k).1 k)])) (hgrow : (w2.alloc B).grownBy w1 v.ownBlock) (hb : Below w.heap.size w wr) (hb2 : Below wr.heap.size wr w2) :
    w1.ownsRow w.heap.size 9 1 v' (stt s (k + 1)).2.length (st (stt s (k + 1)).2) ∧ Below w.heap.size w w1 :=
  part_step (Nat.le_refl _) hbl hlt hown hown' hgrow (hb.trans (hb2.mono hb.size))

theorem kept_any {w w2 : World} {base : Nat} {e : TypeId} {v : Value} {n : Nat} {xs : List Value} (h : w.ownsRow base e 1 v n xs) (hb : Below w.heap.size w w2) : w2.ownsRow base e 1 v n xs := by
  refine h.kept (grown_of_below hb none) ?_
  cases v.ownBlock with
  | none => exact Or.inl rfl
  | some g => exact Or.inr (by simp)

set_option maxRecDepth 1000000 in
set_option maxHeartbeats 1000000 in
theorem implPartsOf_any (s : ByteArray) (hs : s.size ≤ 1048576) (w : World) : Calls Try.prog 14 #[.string s] w fun e w' => partsAns s w e w' := by
  obtain ⟨i0, hi, hz0, hz1, hz2⟩ := info_parts partsS_info9
  by_cases h6 : 600 < s.size
  · go_enter Try.func14, Try.ntmps14
    go_wp2
    go_ret2
    exact Or.inr ⟨fun h => by have := h.1; omega, _, rfl, World.ownsRow_made w #[] 0 (Nat.le_refl _) (Nat.zero_le _) rfl, (Below.refl _ _).alloc (Nat.le_refl _) _⟩
  · have CP := (show Hid _ from plainLine_any s (by omega))
    go_enter Try.func14, Try.ntmps14
    go_wp2_with fail
    refine (CP.out _).mono ?_
    rintro e w0 ⟨(⟨hP, rfl⟩ | ⟨hP, rfl⟩), hw⟩
    · rw [hw]
      have HP := (show Hid _ from hP)
      clear hP hw CP w0
      go_wp2
      go_loopw [4, 5, 6] (fun v b i wr => ∃ (k : Nat), k ≤ s.size + 1 ∧ i = .int .i64 k ∧ b = .int .i64 (stt s k).1 ∧ wr.ownsRow w.heap.size 9 1 v (stt s k).2.length (st (stt s k).2) ∧ Below w.heap.size w wr) (fun _ _ i _ => s.size + 1 - (intOf i).toNat)
      case atStart => exact ⟨0, Nat.zero_le _, rfl, rfl, World.ownsRow_made w #[] 0 (Nat.le_refl _) (Nat.zero_le _) rfl, (Below.refl _ _).alloc (Nat.le_refl _) _⟩
      case round =>
        obtain ⟨k, hk, rfl, rfl, hown, hb⟩ := hrel
        have hsz := hb.size
        obtain ⟨hb1, hb2⟩ := stt_bd s k
        by_cases hle : k ≤ s.size
        · by_cases hlt : k < s.size
          · have c0 : (s[k].toNat : Int) ≤ 255 := by have := s[k].toNat_lt; omega
            by_cases h3 : (s[k].toNat : Int) = 32
            · have h3' : ((s[k].toNat : Int) != 32) = false := by simp; omega
              have HB := (show Hid _ from blank_yes hlt h3)
              clear h3
              by_cases h4 : (stt s k).1 < k
              · have hsl := slice_nat (P := Try.prog) Try.underlying9 s (stt s k).1 k ((stt s k).1 : Int) (k : Int) rfl rfl (by omega) (by omega)
                have hle2 : (s.extract (stt s k).1 k).size ≤ 140737488355328 := by rw [ByteArray.size_extract]; omega
                go_wp2_with fail
                refine (clone_any _ hle2 _).mono ?_
                rintro e w2 ⟨rfl, hbc⟩
                have hown2 := kept_any hown hbc
                have hsz2 := hbc.size
                go_wp2_with (at_builtin; refine wpList_append_own _ rfl (.tmp 36) (.tmp 42) 27 rfl w.heap.size 9 i0 (.string ByteArray.empty) 1 16 Try.underlying27 hi hz0 hz1 hz2 rfl (by decide) _ _ _ rfl (hown2.alloc _) ⟨w2.heap.size, 0, none⟩ 1 1 [.string (s.extract (stt s k).1 k)] rfl rfl (one_new _ _ _) (by intro u hu; simp at hu; subst hu; rfl) (by unfold maxLen; omega) (by omega) (by simp; omega) ?_)
                intro v' w1 hown' hgrow _
                have R := part_stepI HB.out h4 hown2 hown' hgrow hb hbc
                have HS := (show Hid _ from stt_part HB.out h4)
                clear hown' hgrow hown hb hown2 hbc
                go_wp2
                go_roundw
                case rel => exact ⟨k + 1, by omega, by go_num, by rw [HS.out]; go_num, R.1, R.2⟩
                case measure => simp [intOf]; omega
              · have HS := (show Hid _ from stt_none HB.out h4)
                go_wp2
                go_roundw
                case rel => exact ⟨k + 1, by omega, by go_num, by rw [HS.out]; go_num, by rw [HS.out]; exact hown, hb⟩
                case measure => simp [intOf]; omega
            · have h3' : ((s[k].toNat : Int) != 32) = true := by simp; omega
              have HB := (show Hid _ from stt_on (blank_no hlt h3))
              clear h3
              go_wp2
              go_roundw
              case rel => exact ⟨k + 1, by omega, by go_num, by rw [HB.out], by rw [HB.out]; exact hown, hb⟩
              case measure => simp [intOf]; omega
          · have HB := (show Hid _ from blank_end hlt)
            by_cases h4 : (stt s k).1 < k
            · have hsl := slice_nat (P := Try.prog) Try.underlying9 s (stt s k).1 k ((stt s k).1 : Int) (k : Int) rfl rfl (by omega) (by omega)
              have hle2 : (s.extract (stt s k).1 k).size ≤ 140737488355328 := by rw [ByteArray.size_extract]; omega
              go_wp2_with fail
              refine (clone_any _ hle2 _).mono ?_
              rintro e w2 ⟨rfl, hbc⟩
              have hown2 := kept_any hown hbc
              have hsz2 := hbc.size
              go_wp2_with (at_builtin; refine wpList_append_own _ rfl (.tmp 36) (.tmp 42) 27 rfl w.heap.size 9 i0 (.string ByteArray.empty) 1 16 Try.underlying27 hi hz0 hz1 hz2 rfl (by decide) _ _ _ rfl (hown2.alloc _) ⟨w2.heap.size, 0, none⟩ 1 1 [.string (s.extract (stt s k).1 k)] rfl rfl (one_new _ _ _) (by intro u hu; simp at hu; subst hu; rfl) (by unfold maxLen; omega) (by omega) (by simp; omega) ?_)
              intro v' w1 hown' hgrow _
              have R := part_stepI HB.out h4 hown2 hown' hgrow hb hbc
              have HS := (show Hid _ from stt_part HB.out h4)
              clear hown' hgrow hown hb hown2 hbc
              go_wp2
              go_roundw
              case rel => exact ⟨k + 1, by omega, by go_num, by rw [HS.out]; go_num, R.1, R.2⟩
              case measure => simp [intOf]; omega
            · have HS := (show Hid _ from stt_none HB.out h4)
              go_wp2
              go_roundw
              case rel => exact ⟨k + 1, by omega, by go_num, by rw [HS.out]; go_num, by rw [HS.out]; exact hown, hb⟩
              case measure => simp [intOf]; omega
        · have e : k = s.size + 1 := by omega
          have HO : Hid (wr.ownsRow w.heap.size 9 1 u4 (stt s (s.size + 1)).2.length (st (stt s (s.size + 1)).2)) := by rw [e] at hown; exact hown
          obtain ⟨n, hn⟩ : ∃ n, n = (stt s (s.size + 1)).2.length := ⟨_, rfl⟩
          obtain ⟨_, ao, cap, hv, _⟩ := row_lie HO.out
          rw [← hn] at hv
          have HN := (show Hid _ from hn)
          subst hv
          clear hown hn e
          by_cases h10 : 10 < (n : Int)
          · go_wp2
            go_ret2
            exact Or.inr ⟨fun h => by have := h.2.2; have := HN.out; omega, _, rfl, World.ownsRow_made wr #[] 0 hsz (Nat.zero_le _) rfl, hb.alloc hsz _⟩
          · go_wp2
            go_ret2
            exact Or.inl ⟨⟨by omega, HP.out, by have := HN.out; omega⟩, _, rfl, HO.out, hb⟩
    · rw [hw]
      have HP := (show Hid _ from hP)
      clear hP hw CP w0
      go_wp2
      go_ret2
      exact Or.inr ⟨fun h => HP.out h.2.1, _, rfl, World.ownsRow_made w #[] 0 (Nat.le_refl _) (Nat.zero_le _) rfl, (Below.refl _ _).alloc (Nat.le_refl _) _⟩
end Go.Proofs.Ytkdpecjjalddbab
