/-
  The walk of spec.SumOnes: what it answers.
-/
import Derived.Test.YthkkhmmcgjcedaaDoorJoint1
import Derived.Test.YthkkhmmcgjcedaaDoorRows
import Derived.Deep.LoopGhost
import Derived.WalkSmall
namespace Go.Proofs.YthkkhmmcgjcedaaDoor
open Go.RowKit

set_option maxRecDepth 1000000 in
set_option maxHeartbeats 1000000 in
theorem specSumOnes_any (s : ByteArray) (hs : s.size ≤ 9223372036854775000) (w : World) :
    Calls Tryd.prog 25 #[.string s] w fun e w' => e = .returned (.int .i64 ((sumOnes s.data.toList : Nat) : Int)) ∧ w' = w := by
  obtain ⟨l, hl⟩ : ∃ l, s.data.toList = l := ⟨_, rfl⟩
  have hlen : l.length = s.size := by rw [← hl]; exact Array.length_toList
  have hat : ∀ k (hk : k < s.size) (hk2 : k < l.length), s[k] = l[k] := fun k hk hk2 => by subst hl; rfl
  have HL := hid hl
  have HLEN := hid hlen
  have HAT := hid hat
  clear hl hlen hat
  go_enter Tryd.func25, Tryd.ntmps25
  go_wp2
  go_loopg [3, 4] (s.size + 1) (fun g y i wr => ∃ (k S : Nat), k + 2 * g ≥ s.size + 1 ∧ k ≤ s.size + 1 ∧ i = .int .i64 k ∧ y = .int .i64 (S : Int) ∧ S ≤ 65535 ∧ Hid (onesF 0 l = onesF S (l.drop k)) ∧ wr = w)
  case atStart => exact ⟨0, 0, by omega, by omega, rfl, rfl, by omega, rfl, rfl⟩
  case round =>
    obtain ⟨k, S, hkg, hks, rfl, rfl, hS, HF, hwr⟩ := hrel
    rw [hwr]
    clear hwr wr
    by_cases hlt : k < s.size
    · have hlt' : (k : Int) < (s.size : Int) := by omega
      have ha : ((s[k]'hlt).toNat : Int) ≤ 255 := by have := (s[k]'hlt).toNat_lt; omega
      cases gk with
      | zero => omega
      | succ g =>
        by_cases h2 : k + 1 < s.size
        · have h2' : (k : Int) + 1 < (s.size : Int) := by omega
          have hb : ((s[k + 1]'h2).toNat : Int) ≤ 255 := by have := (s[k + 1]'h2).toNat_lt; omega
          have HP := hid (onesF_pair l k S (by have := HLEN.out; omega))
          have hone : Hid (onesF 0 l = onesF (ones1 S (256 * (s[k]'hlt).toNat + (s[k + 1]'h2).toNat)) (l.drop (k + 2))) := by
            show _ = _
            rw [HF.out, HP.out, HAT.out k hlt (by have := HLEN.out; omega), HAT.out (k + 1) h2 (by have := HLEN.out; omega)]
          have hle := ones1_le hS (pair_le (s[k]'hlt) (s[k + 1]'h2))
          clear HP HF
          by_cases ho : 65535 < S + (256 * (s[k]'hlt).toNat + (s[k + 1]'h2).toNat)
          · have ho' : (65535 : Int) < (S : Int) + (256 * ((s[k]'hlt).toNat : Int) + ((s[k + 1]'h2).toNat : Int)) := by omega
            have e1 : Hid (ones1 S (256 * (s[k]'hlt).toNat + (s[k + 1]'h2).toNat) = S + (256 * (s[k]'hlt).toNat + (s[k + 1]'h2).toNat) - 65535) := (show _ = _ by unfold ones1; rw [if_pos ho])
            go_wp2
            go_roundg g
            case measure => omega
            case rel => exact ⟨k + 2, ones1 S (256 * (s[k]'hlt).toNat + (s[k + 1]'h2).toNat), by omega, by omega, by go_num, by rw [e1.out]; go_num, hle, hone, rfl⟩
          · have ho' : ¬ (65535 : Int) < (S : Int) + (256 * ((s[k]'hlt).toNat : Int) + ((s[k + 1]'h2).toNat : Int)) := by omega
            have e1 : Hid (ones1 S (256 * (s[k]'hlt).toNat + (s[k + 1]'h2).toNat) = S + (256 * (s[k]'hlt).toNat + (s[k + 1]'h2).toNat)) := (show _ = _ by unfold ones1; rw [if_neg ho])
            go_wp2
            go_roundg g
            case measure => omega
            case rel => exact ⟨k + 2, ones1 S (256 * (s[k]'hlt).toNat + (s[k + 1]'h2).toNat), by omega, by omega, by go_num, by rw [e1.out]; go_num, hle, hone, rfl⟩
        · have h2' : ¬ (k : Int) + 1 < (s.size : Int) := by omega
          have HP := hid (onesF_last l k S (by have := HLEN.out; omega))
          have hone : Hid (onesF 0 l = onesF (ones1 S (256 * (s[k]'hlt).toNat)) (l.drop (k + 2))) := by
            show _ = _
            rw [HF.out, HP.out, HAT.out k hlt (by have := HLEN.out; omega), List.drop_eq_nil_of_le (by have := HLEN.out; omega)]
            rfl
          have hle := ones1_le (n := 256 * (s[k]'hlt).toNat) hS (by have := (s[k]'hlt).toNat_lt; omega)
          clear HP HF
          by_cases ho : 65535 < S + 256 * (s[k]'hlt).toNat
          · have ho' : (65535 : Int) < (S : Int) + 256 * ((s[k]'hlt).toNat : Int) := by omega
            have e1 : Hid (ones1 S (256 * (s[k]'hlt).toNat) = S + 256 * (s[k]'hlt).toNat - 65535) := (show _ = _ by unfold ones1; rw [if_pos ho])
            go_wp2
            go_roundg g
            case measure => omega
            case rel => exact ⟨k + 2, ones1 S (256 * (s[k]'hlt).toNat), by omega, by omega, by go_num, by rw [e1.out]; go_num, hle, hone, rfl⟩
          · have ho' : ¬ (65535 : Int) < (S : Int) + 256 * ((s[k]'hlt).toNat : Int) := by omega
            have e1 : Hid (ones1 S (256 * (s[k]'hlt).toNat) = S + 256 * (s[k]'hlt).toNat) := (show _ = _ by unfold ones1; rw [if_neg ho])
            go_wp2
            go_roundg g
            case measure => omega
            case rel => exact ⟨k + 2, ones1 S (256 * (s[k]'hlt).toNat), by omega, by omega, by go_num, by rw [e1.out]; go_num, hle, hone, rfl⟩
    · have hlt' : ¬ (k : Int) < (s.size : Int) := by omega
      have HR : Hid (sumOnes l = 65535 - S) := by
        show _ = _
        rw [sumOnes, HF.out, List.drop_eq_nil_of_le (by have := HLEN.out; omega)]
        rfl
      clear HF
      go_wp2
      go_ret
      refine ⟨?_, rfl⟩
      rw [HL.out, HR.out]
      show _ = Ending.returned (.int .i64 (((65535 - S : Nat)) : Int))
      rw [show (((65535 - S : Nat)) : Int) = 65535 - (S : Int) by omega]
      rfl
end Go.Proofs.YthkkhmmcgjcedaaDoor
