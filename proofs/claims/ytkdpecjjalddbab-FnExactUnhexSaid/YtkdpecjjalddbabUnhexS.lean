/-
  The walk of spec.Unhex: what it answers.
-/
import Derived.Test.YtkdpecjjalddbabRows
import Derived.Test.YtkdpecjjalddbabPlainUnhex
import Derived.WalkKit
namespace Go.Proofs.Ytkdpecjjalddbab
open Go.RowKit

theorem unhexS_info5 : (Try.prog.info? 5).map (fun i => (i.zero, i.size, i.bytes)) = some (some (.int .u8 0), 1, 1) := by kernel_rfl

theorem l01Value_any (x : Int) (h0 : 0 ≤ x) (h1 : x ≤ 255) (w : World) :
    Calls Try.prog 19 #[.int .u8 x] w fun e w' => e = .returned (.int .i64 (lv x)) ∧ w' = w := by
  by_cases h48 : 48 ≤ x ∧ x ≤ 57
  · have hl : lv x = x - 48 := by unfold lv; rw [if_pos h48]
    rw [hl]
    obtain ⟨a1, a2⟩ := h48
    clear hl
    go_enter Try.func19, Try.ntmps19
    go_wp2
    go_ret
    exact ⟨rfl, rfl⟩
  · by_cases h97 : 97 ≤ x ∧ x ≤ 102
    · have hl : lv x = x - 97 + 10 := by unfold lv; rw [if_neg h48, if_pos h97]; omega
      rw [hl]
      obtain ⟨a1, a2⟩ := h97
      have a3 : 48 ≤ x := by omega
      have a4 : ¬ x ≤ 57 := by omega
      clear hl h48
      go_enter Try.func19, Try.ntmps19
      go_wp2
      go_ret
      exact ⟨rfl, rfl⟩
    · have hl : lv x = -1 := by unfold lv; rw [if_neg h48, if_neg h97]
      rw [hl]
      clear hl
      by_cases a1 : 48 ≤ x
      · have a2 : ¬ x ≤ 57 := by omega
        by_cases a3 : 97 ≤ x
        · have a4 : ¬ x ≤ 102 := by omega
          clear h48 h97
          go_enter Try.func19, Try.ntmps19
          go_wp2
          go_ret
          exact ⟨rfl, rfl⟩
        · clear h48 h97
          go_enter Try.func19, Try.ntmps19
          go_wp2
          go_ret
          exact ⟨rfl, rfl⟩
      · have a3 : ¬ 97 ≤ x := by omega
        clear h48 h97
        go_enter Try.func19, Try.ntmps19
        go_wp2
        go_ret
        exact ⟨rfl, rfl⟩

theorem index_two (s : ByteArray) (k : Nat) (h : 2 * k < s.size) (wx : World) : (Instr.index 9 (.string s) (.int .i64 (2 * (k : Int)))).run Try.prog wx = .ok (.int .u8 (s[2 * k].toNat : Int)) wx := by
  rw [run_index_string wx 9 s .i64 _ Try.underlying9, dif_pos (by omega)]
  have e : (2 * (k : Int)).toNat = 2 * k := by omega
  simp only [e]
theorem index_two1 (s : ByteArray) (k : Nat) (h : 2 * k + 1 < s.size) (wx : World) : (Instr.index 9 (.string s) (.int .i64 (2 * (k : Int) + 1))).run Try.prog wx = .ok (.int .u8 (s[2 * k + 1].toNat : Int)) wx := by
  rw [run_index_string wx 9 s .i64 _ Try.underlying9, dif_pos (by omega)]
  have e : (2 * (k : Int) + 1).toNat = 2 * k + 1 := by omega
  simp only [e]

attribute [local go_sem ↓] index_two index_two1

set_option maxRecDepth 1000000 in
set_option maxHeartbeats 1000000 in
theorem specUnhex_any (s : ByteArray) (hs : s.size ≤ 40000) (he : s.size % 2 = 0) (w : World) :
    Calls Try.prog 9 #[.string s] w fun e w' =>
      ((Figs 16 s.data.toList ∧ e = .returned (.tuple #[.string ⟨(unh s.data.toList).toArray⟩, .bool true])) ∨ (¬ Figs 16 s.data.toList ∧ e = .returned (.tuple #[.string ByteArray.empty, .bool false]))) ∧ Below w.heap.size w w' := by
  obtain ⟨i0, hi, hz0, hz1, hz2⟩ := info_parts unhexS_info5
  have hs' : ¬ (40000 : Int) < (s.size : Int) := by omega
  have he' : ((s.size : Int) % 2 != 0) = false := by simp; omega
  go_enter Try.func9, Try.ntmps9
  go_wp2
  go_loopw [4, 5] (fun v i wr => ∃ (k : Nat), 2 * k ≤ s.size ∧ i = .int .i64 (2 * (k : Int)) ∧ Figs 16 (s.data.toList.take (2 * k)) ∧ wr.ownsRow w.heap.size 5 1 v k (cs (unh (s.data.toList.take (2 * k)))) ∧ Below w.heap.size w wr) (fun _ i _ => s.size - (intOf i).toNat)
  case atStart => exact ⟨0, Nat.zero_le _, rfl, by simp [Figs], World.ownsRow_made w #[] 0 (Nat.le_refl _) (Nat.zero_le _) rfl, (Below.refl _ _).alloc (Nat.le_refl _) _⟩
  case round =>
    obtain ⟨k, hk, rfl, hF, hown, hb⟩ := hrel
    have hsz := hb.size
    by_cases hlt : 2 * k < s.size
    · have hlt1 : 2 * k + 1 < s.size := by omega
      have g1 : 2 * (k : Int) < (s.size : Int) := by omega
      have c0 : (s[2 * k].toNat : Int) ≤ 255 := by have := s[2 * k].toNat_lt; omega
      have c1 : (s[2 * k + 1].toNat : Int) ≤ 255 := by have := s[2 * k + 1].toNat_lt; omega
      have b1 := lv_bd (s[2 * k].toNat : Int)
      have b2 := lv_bd (s[2 * k + 1].toNat : Int)
      by_cases h1 : lv (s[2 * k].toNat : Int) < 0
      · go_wp2_with (go_at_call 19; refine (l01Value_any _ ?_ ?_ _).mono ?_; (focus omega); (focus omega); rintro e w' ⟨rfl, rfl⟩)
        go_ret2
        exact ⟨Or.inr ⟨not_Figs (by omega) h1, rfl⟩, hb⟩
      · by_cases h2 : lv (s[2 * k + 1].toNat : Int) < 0
        · go_wp2_with (go_at_call 19; refine (l01Value_any _ ?_ ?_ _).mono ?_; (focus omega); (focus omega); rintro e w' ⟨rfl, rfl⟩)
          go_ret2
          exact ⟨Or.inr ⟨not_Figs (by omega) h2, rfl⟩, hb⟩
        · go_wp2_with (first | (go_at_call 19; refine (l01Value_any _ ?_ ?_ _).mono ?_; (focus omega); (focus omega); rintro e w' ⟨rfl, hw⟩; rw [hw]; clear hw w') | (at_builtin; refine wpList_append_own _ rfl (.tmp 39) (.tmp 45) 32 rfl w.heap.size 5 i0 (.int .u8 0) 1 1 Try.underlying32 hi hz0 hz1 hz2 rfl (by decide) _ _ _ rfl (hown.alloc _) ⟨wr.heap.size, 0, none⟩ 1 1 [.int .u8 (16 * lv (s[2 * k].toNat : Int) + lv (s[2 * k + 1].toNat : Int))] rfl rfl ?c1 ?c2 ?c3 ?c4 ?c5 ?_))
          case c1 => intro j u hj; match j, hj with | 0, hj => simp at hj; subst hj; simp [Addr.add]
          case c2 => intro u hu; simp at hu; subst hu; rfl
          case c3 => unfold maxLen; omega
          case c4 => omega
          case c5 => simp; omega
          intro v' w1 hown' hgrow _
          have R := unh_step hlt1 (by omega) (by omega) hown hown' hgrow hb
          have HF := (show Hid _ from hF.snoc2 hlt1 (by omega) (by omega))
          clear hown' hgrow hown hb hF
          go_wp2
          go_roundw
          case rel => exact ⟨k + 1, by omega, by go_num, HF.out, R.1, R.2⟩
          case measure => simp [intOf]; omega
    · have g1 : ¬ 2 * (k : Int) < (s.size : Int) := by omega
      have HF : Hid (Figs 16 s.data.toList ∧ wr.ownsRow w.heap.size 5 1 u4 (unh s.data.toList).length (cs (unh s.data.toList))) := by
        have e : s.data.toList.take (2 * k) = s.data.toList := List.take_of_length_le (by simp; omega)
        have e2 : k = (unh s.data.toList).length := (unh_length k _ (by simp; omega)).symm
        rw [e] at hF hown
        rw [e2] at hown
        exact ⟨hF, hown⟩
      have hcv := text_of_row (P := Try.prog) Try.underlying32 Try.underlying5 Try.underlying9 HF.out.2
      clear hown hF
      go_wp2
      go_ret2
      exact ⟨Or.inl ⟨HF.out.1, rfl⟩, hb⟩

theorem specUnhex_no (s : ByteArray) (hs : 40000 < s.size ∨ s.size % 2 ≠ 0) (w : World) :
    Calls Try.prog 9 #[.string s] w fun e w' => e = .returned (.tuple #[.string ByteArray.empty, .bool false]) ∧ Below w.heap.size w w' := by
  by_cases h : 40000 < s.size
  · clear hs
    go_enter Try.func9, Try.ntmps9
    go_wp2
    go_ret2
    exact ⟨rfl, Below.refl _ _⟩
  · have he' : ((s.size : Int) % 2 != 0) = true := by simp; omega
    have h' : ¬ (40000 : Int) < (s.size : Int) := by omega
    clear hs
    go_enter Try.func9, Try.ntmps9
    go_wp2
    go_ret2
    exact ⟨rfl, Below.refl _ _⟩
end Go.Proofs.Ytkdpecjjalddbab
