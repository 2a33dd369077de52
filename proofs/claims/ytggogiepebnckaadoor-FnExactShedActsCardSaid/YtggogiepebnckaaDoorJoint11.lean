/-
  The walk of spec.ReadDecimal: what it answers.
-/
import Derived.Test.YtggogiepebnckaaDoorJoint10
import Derived.WalkKit
namespace Go.Proofs.YtggogiepebnckaaDoor
open Go.RowKit

set_option maxRecDepth 1000000 in
set_option maxHeartbeats 1000000 in
theorem specReadDecimal_any (s : ByteArray) (hs : s.size ≤ 10) (w : World) :
    Calls Tryd.prog 77 #[.string s] w fun e w' =>
      ((DecOk s.data.toList ∧ e = .returned (.tuple #[.int .i64 (num s.data.toList), .bool true])) ∨ (¬ DecOk s.data.toList ∧ e = .returned (.tuple #[.int .i64 0, .bool false]))) ∧ Below w.heap.size w w' := by
  have hs' : ¬ (10 : Int) < (s.size : Int) := by omega
  go_enter Tryd.func77, Tryd.ntmps77
  go_wp2
  go_loop [4, 5] (fun x i => ∃ (k : Nat), k ≤ s.size ∧ i = .int .i64 k ∧ x = .int .i64 (num (s.data.toList.take k)) ∧ Digits (s.data.toList.take k)) (fun _ i => s.size - (intOf i).toNat)
  case atStart => exact ⟨0, Nat.zero_le _, rfl, rfl, by simp [Digits]⟩
  case round =>
    obtain ⟨k, hk, rfl, rfl, hD⟩ := hrel
    have hnl := num_lt k (s.data.toList.take k) (take_len s k hk) hD
    have hn10 : num (s.data.toList.take k) < 10000000000 := Nat.lt_of_lt_of_le hnl (Nat.pow_le_pow_right (by omega) (Nat.le_trans hk hs))
    clear hnl
    have HD := (show Hid _ from hD)
    clear hD
    by_cases hlt : k < s.size
    · have c0 : (s[k].toNat : Int) ≤ 255 := by have := s[k].toNat_lt; omega
      by_cases h1 : (s[k].toNat : Int) < 48
      · go_wp2
        go_ret2
        exact ⟨Or.inr ⟨digits_at hlt (by omega), rfl⟩, Below.refl _ _⟩
      · by_cases h2 : 57 < (s[k].toNat : Int)
        · go_wp2
          go_ret2
          exact ⟨Or.inr ⟨digits_at hlt (by omega), rfl⟩, Below.refl _ _⟩
        · have HN := (show Hid _ from num_step hlt (by omega))
          have HD2 : Hid (Digits (s.data.toList.take (k + 1))) := by
            rw [take_snoc s k hlt]
            exact Digits.snoc HD.out (by omega)
          go_wp2
          go_round
          case rel => exact ⟨k + 1, by omega, by go_num, by rw [HN.out], HD2.out⟩
          case measure => simp [intOf]; omega
    · have e : Hid (s.data.toList.take k = s.data.toList) := List.take_of_length_le (by simp; omega)
      have HD3 : Hid (Digits s.data.toList) := by have := HD.out; rw [e.out] at this; exact this
      rw [e.out] at hn10
      obtain ⟨N, hN⟩ : ∃ N, N = num s.data.toList := ⟨_, rfl⟩
      have hNe : num (s.data.toList.take k) = N := by rw [e.out, hN]
      rw [hNe]
      rw [← hN] at hn10
      have HN := (show Hid _ from hN)
      clear hN hNe e
      by_cases hbig : 1000000000 < (N : Int)
      · go_wp2
        go_ret2
        exact ⟨Or.inr ⟨fun h => by have := h.2.1; have := HN.out; omega, rfl⟩, Below.refl _ _⟩
      · have HC := (show Hid _ from specDecimal_nat N (by omega))
        go_wp2_with (go_at_call 84; refine (HC.out _).mono ?_; rintro e w' ⟨rfl, hb⟩)
        · have hne : (!dec ↑N == s.toList) = true := by assumption
          have hno : ¬ DecOk s.data.toList := by
            intro h
            have h1 := (dec_num _ h.1).2 h.2.2
            rw [← HN.out] at h1
            have h2 := same_dec.2 h1
            rw [hne] at h2
            cases h2
          go_ret2
          exact ⟨Or.inr ⟨hno, rfl⟩, hb⟩
        · have hne : (!dec ↑N == s.toList) = false := by assumption
          have hyes : DecOk s.data.toList := by
            have h1 := same_dec.1 hne
            have h2 := HN.out
            rw [h2] at h1
            exact ⟨HD3.out, by omega, (dec_num _ HD3.out).1 h1⟩
          go_ret2
          exact ⟨Or.inl ⟨hyes, ret_num HN.out⟩, hb⟩

theorem specReadDecimal_long (s : ByteArray) (hs : 10 < s.size) (w : World) :
    Calls Tryd.prog 77 #[.string s] w fun e w' => e = .returned (.tuple #[.int .i64 0, .bool false]) ∧ Below w.heap.size w w' := by
  go_enter Tryd.func77, Tryd.ntmps77
  go_wp2
  go_ret2
  exact ⟨rfl, Below.refl _ _⟩
end Go.Proofs.YtggogiepebnckaaDoor
