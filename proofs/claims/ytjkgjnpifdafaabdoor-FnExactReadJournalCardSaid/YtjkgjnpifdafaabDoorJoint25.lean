/-
  The walks of spec.SumMore: what they answer.
-/
import Derived.Test.YtjkgjnpifdafaabDoorRows
import Derived.Test.YtjkgjnpifdafaabDoorJoint1
import Derived.Deep.LoopGhost
import Derived.WalkKit
namespace Go.Proofs.YtjkgjnpifdafaabDoor
open Go.RowKit

set_option maxRecDepth 1000000 in
set_option maxHeartbeats 1000000 in
theorem specSumMore_any (x : Nat) (hx : x < 4294967296) (s : ByteArray) (hs : s.size ≤ 140737488355328) (w : World) :
    Calls Tryd.prog 63 #[.int .u32 x, .string s] w fun e w' => e = .returned (.int .u32 (crc x s.data.toList)) ∧ w' = w := by
  go_enter Tryd.func63, Tryd.ntmps63
  go_wp2
  go_loopg [0, 5, 6, 7] s.size (fun g y i _ _ wr => ∃ (k : Nat), k + g = s.size ∧ i = .int .i64 k ∧ y = .int .u32 (crc x (s.data.toList.take k)) ∧ wr = w)
  case atStart => exact ⟨0, by omega, rfl, rfl, rfl⟩
  case round =>
    obtain ⟨k, hkg, rfl, rfl, rfl⟩ := hrel
    obtain ⟨c, hc⟩ : ∃ c, c = crc x (s.data.toList.take k) := ⟨_, rfl⟩
    have hcl : c < 4294967296 := by rw [hc]; exact crc_lt hx _
    cases gk with
    | zero =>
      have hlt : ¬ (k : Int) < (s.size : Int) := by omega
      have HE : Hid (c = crc x s.data.toList) := by
        show _ = _
        rw [hc, List.take_of_length_le (by simp; omega)]
      rw [← hc]
      clear hc
      go_wp2
      go_ret
      exact ⟨ret_u32 HE.out, rfl⟩
    | succ g =>
      have hlt : k < s.size := by omega
      have hlt' : (k : Int) < (s.size : Int) := by omega
      have c0 : (s[k].toNat : Int) ≤ 255 := by have := s[k].toNat_lt; omega
      have HC : Hid (crc x (s.data.toList.take (k + 1)) = crc1 c s[k]) := by show _ = _; rw [take_one s k hlt, crc_snoc, hc]
      have hxr : bits .xor .u32 (c : Int) (s[k].toNat : Int) = ((c ^^^ s[k].toNat : Nat) : Int) := u32_xor_nat c s[k].toNat hcl (by have := s[k].toNat_lt; omega)
      rw [← hc]
      clear hc
      go_wp2
      clear hxr
      obtain ⟨d, hd⟩ : ∃ d, d = c ^^^ s[k].toNat := ⟨_, rfl⟩
      have hdl : d < 4294967296 := by rw [hd]; exact xb_lt hcl _
      have HD : Hid (crc1 c s[k] = hsN 8 d) := by rw [hd]; rfl
      go_loopg [0, 6, 7] 8 (fun g2 y j _ wy => ∃ (i : Nat), i + g2 = 8 ∧ j = .int .i64 i ∧ y = .int .u32 (hsN i d) ∧ wy = wr)
      case atStart => exact ⟨0, by omega, rfl, by rw [hd]; rfl, rfl⟩
      case round =>
        obtain ⟨i, hig, rfl, rfl, rfl⟩ := hrel
        obtain ⟨e, he⟩ : ∃ e, e = hsN i d := ⟨_, rfl⟩
        have hel : e < 4294967296 := by rw [he]; exact hsN_lt i hdl
        cases gk with
        | zero =>
          have hi : ¬ (i : Int) < 8 := by omega
          have HX : Hid (e = crc x (s.data.toList.take (k + 1))) := by
            show _ = _
            have e8 : i = 8 := by omega
            rw [HC.out, HD.out, he, e8]
          rw [← he]
          clear he hd
          go_wp2
          go_roundg g
          case measure => omega
          case rel => exact ⟨k + 1, by omega, by go_num, by rw [HX.out], rfl⟩
        | succ g2 =>
          have hi : (i : Int) < 8 := by omega
          have HX : Hid (hsN (i + 1) d = half e) := by show _ = _; rw [he]; rfl
          rw [← he]
          clear he hd
          by_cases ho : e % 2 = 1
          · have ho' : ((e : Int) % 2 == 1) = true := by simp; omega
            have hxr : bits .xor .u32 ((e : Int) / 2) 3558460437 = ((e / 2 ^^^ 3558460437 : Nat) : Int) := by
              have := u32_xor_nat (e / 2) 3558460437 (by omega) (by omega)
              simpa using this
            have HH : Hid (half e = e / 2 ^^^ 3558460437) := by show _ = _; unfold half; rw [if_pos ho]
            clear ho
            go_wp2
            go_roundg g2
            case measure => omega
            case rel => exact ⟨i + 1, by omega, by go_num, by rw [HX.out, HH.out], rfl⟩
          · have ho' : ((e : Int) % 2 == 1) = false := by simp; omega
            have HH : Hid (half e = e / 2) := by show _ = _; unfold half; rw [if_neg ho]
            clear ho
            go_wp2
            go_roundg g2
            case measure => omega
            case rel => exact ⟨i + 1, by omega, by go_num, by rw [HX.out, HH.out]; go_num, rfl⟩

end Go.Proofs.YtjkgjnpifdafaabDoor
