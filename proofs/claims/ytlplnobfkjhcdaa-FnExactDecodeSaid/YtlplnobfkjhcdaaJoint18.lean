/-
  The walk of impl.ReadVar: what it answers.
-/
import Derived.Test.YtlplnobfkjhcdaaRows
import Derived.Test.YtlplnobfkjhcdaaJoint1
import Derived.WalkKit
namespace Go.Proofs.Ytlplnobfkjhcdaa
open Go.RowKit

set_option maxHeartbeats 1000000 in
set_option maxRecDepth 1000000 in
theorem implReadVar_in (s : ByteArray) (a : Nat) (ha : a ≤ s.size) (hs : s.size ≤ 140737488355328) (w : World) :
    Calls Try.prog 45 #[.string s, .int .i64 a] w fun e w' => e = .returned (rvAns a (rv (s.data.toList.drop a))) ∧ w' = w := by
  go_enter Try.func45, Try.ntmps45
  go_wp2
  go_loop [7, 8, 9] (fun n g i => ∃ (k W : Nat) (p : List UInt8), RvAt s a k p ∧ i = .int .i64 k ∧ n = .int .i64 (val p) ∧ g = .int .i64 W ∧ Hid (W = 128 ^ (k - a))) (fun _ _ i => a + 5 - (intOf i).toNat)
  case atStart => exact ⟨a, 1, [], RvAt.start s a ha, rfl, rfl, rfl, by simp [Hid]⟩
  case round =>
    obtain ⟨k, W, p, hR, rfl, rfl, rfl, HW⟩ := hrel
    have k1 := hR.lo
    have k2 := hR.hi
    have k3 := hR.five
    by_cases hk : k < s.size
    · by_cases h5 : k < a + 5
      · have hbd := hR.bounds h5 s[k].toNat
        rw [← HW.out] at hbd
        obtain ⟨b1, b2, b3, b4⟩ := hbd
        have m0 : (0 : Int) ≤ (s[k].toNat : Int) % 128 * (W : Int) := by
          have : ((s[k].toNat % 128 * W : Nat) : Int) = (s[k].toNat : Int) % 128 * (W : Int) := by simp
          omega
        have m1 : (s[k].toNat : Int) % 128 * (W : Int) ≤ 34091302912 := by
          have : ((s[k].toNat % 128 * W : Nat) : Int) = (s[k].toNat : Int) % 128 * (W : Int) := by simp
          omega
        have c0 : (s[k].toNat : Int) ≤ 255 := by have := s[k].toNat_lt; omega
        have HV : Hid (((val (p ++ [s[k]]) : Nat) : Int) = (val p : Int) + (s[k].toNat : Int) % 128 * (W : Int)) := hR.val_step HW.out s[k]
        by_cases hb : 127 < (s[k].toNat : Int)
        · go_wp2
          go_round
          case rel => exact ⟨k + 1, W * 128, p ++ [s[k]], hR.step hk h5 (by omega), by go_num, by rw [HV.out], by go_num, hR.W_step HW.out⟩
          case measure => simp [intOf]; omega
        · by_cases hz : (s[k].toNat : Int) ≤ 0
          · by_cases hak : a < k
            · go_wp2
              go_ret3
              exact ⟨rvAns_none (hR.no hk h5 (by omega) (Or.inr ⟨zero_of_toNat hz, hak⟩)), rfl⟩
            · have hv : (val p : Int) + (s[k].toNat : Int) % 128 * (W : Int) ≤ 1000000000 := by
                have : val p = 0 := by have := hR.len; have e : p = [] := List.eq_nil_of_length_eq_zero (by omega); rw [e]; rfl
                have e : s[k].toNat = 0 := by omega
                rw [this, e]; simp
              have HZ : Hid (((val (p ++ [s[k]]) : Nat) : Int) = (val p : Int)) := by
                have e : (s[k].toNat : Int) = 0 := by omega
                show _ = _
                rw [HV.out, e]; simp
              go_wp2
              go_ret3
              exact ⟨rvAns_some (hR.yes hk h5 (by omega) (by have := HV.out; omega) (by omega)) k1 HZ.out rfl, rfl⟩
          · by_cases hv : 1000000000 < (val p : Int) + (s[k].toNat : Int) % 128 * (W : Int)
            · go_wp2
              go_ret3
              exact ⟨rvAns_none (hR.no hk h5 (by omega) (Or.inl (by have := HV.out; omega))), rfl⟩
            · go_wp2
              go_ret3
              exact ⟨rvAns_some (hR.yes hk h5 (by omega) (by have := HV.out; omega) (fun h => not_zero (by omega) h.1)) k1 HV.out rfl, rfl⟩
      · go_wp2
        go_ret3
        exact ⟨rvAns_none (hR.none_end (Or.inr (by omega))), rfl⟩
    · go_wp2
      go_ret3
      exact ⟨rvAns_none (hR.none_end (Or.inl (by omega))), rfl⟩

theorem implReadVar_out (s : ByteArray) (a : Int) (ha : a < 0 ∨ (s.size : Int) < a) (w : World) :
    Calls Try.prog 45 #[.string s, .int .i64 a] w fun e w' => e = .returned (.tuple #[.int .i64 0, .int .i64 0, .bool false]) ∧ w' = w := by
  by_cases h0 : a < 0
  · go_enter Try.func45, Try.ntmps45
    go_wp2
    go_ret3
    exact ⟨rfl, rfl⟩
  · have h1 : (s.size : Int) < a := by omega
    go_enter Try.func45, Try.ntmps45
    go_wp2
    go_ret3
    exact ⟨rfl, rfl⟩
end Go.Proofs.Ytlplnobfkjhcdaa
