/-
  The walks of impl's check sums: more, bytes, SumMore, SumOf: what they answer, where the table holds its sixteen numbers.
-/
import Derived.Test.YtoanhjjigbjecaaGreatDoorRows
import Derived.Test.YtoanhjjigbjecaaGreatDoorJoint1
import Derived.Deep.LoopGhost
import Derived.Lib.LaidTab
import Derived.WalkSmall
import Derived.WalkKit
namespace Go.Proofs.YtoanhjjigbjecaaGreatDoor
open Go.RowKit

theorem stepsVar : Tryz.prog.globalNamed "loop.example/g00232/impl.fourSteps" = some 0 := by kernel_rfl
/-- the table holds its numbers -/
def Steps (w : World) : Prop := Lib.TabIs Tryz.prog w "loop.example/g00232/impl.fourSteps" .u32 stepsTab
theorem Steps.cell {w : World} (h : Steps w) (r : Nat) (hr : r < 16) : w.cell? ⟨0, r, none⟩ = some (.int .u32 ((hsN 4 r : Nat) : Int)) := by
  have := Lib.TabIs.cell h stepsVar r hr
  rw [stepsTab_at r hr] at this
  exact this

theorem steps_on {w w' : World} (h : Steps w) (hb : Below w.heap.size w w') : Steps w' := by
  refine var?_below hb stepsVar ?_ h
  exact World.block_lt_of_cell? w _ (Steps.cell h 0 (by omega))

set_option maxRecDepth 1000000 in
set_option maxHeartbeats 1000000 in
theorem more_any (x : Nat) (hx : x < 4294967296) (s : ByteArray) (hs : s.size ≤ 140737488355328) (w : World) (ht : Steps w) :
    Calls Tryz.prog 109 #[.int .u32 x, .string s] w fun e w' => e = .returned (.int .u32 (crc x s.data.toList)) ∧ w' = w := by
  have HT := (show Hid _ from ht)
  clear ht
  go_enter Tryz.func109, Tryz.ntmps109
  go_wp2
  go_loopg [0, 5] s.size (fun g y i wr => ∃ (k : Nat), k + g = s.size ∧ i = .int .i64 k ∧ y = .int .u32 (crc x (s.data.toList.take k)) ∧ wr = w)
  case atStart => exact ⟨0, by omega, rfl, rfl, rfl⟩
  case round =>
    obtain ⟨k, hkg, rfl, rfl, rfl⟩ := hrel
    obtain ⟨c, hc⟩ : ∃ c, c = crc x (s.data.toList.take k) := ⟨_, rfl⟩
    have hcl : c < 4294967296 := by rw [hc]; exact crc_lt hx _
    cases gk with
    | zero =>
      have hlt : ¬ (k : Int) < (s.size : Int) := by omega
      have HE : Hid (c = crc x s.data.toList) := by
        show _ = _
        rw [hc, List.take_of_length_le (by simp; omega)]
      rw [← hc]
      clear hc
      go_wp2
      go_ret
      exact ⟨ret_u32 HE.out, rfl⟩
    | succ g =>
      have hlt : k < s.size := by omega
      have hlt' : (k : Int) < (s.size : Int) := by omega
      have c0 : (s[k].toNat : Int) ≤ 255 := by have := s[k].toNat_lt; omega
      have HC : Hid (crc x (s.data.toList.take (k + 1)) = crc1 c s[k]) := by show _ = _; rw [take_one s k hlt, crc_snoc, hc]
      have hxr : bits .xor .u32 (c : Int) (s[k].toNat : Int) = ((c ^^^ s[k].toNat : Nat) : Int) := u32_xor_nat c s[k].toNat hcl (by have := s[k].toNat_lt; omega)
      rw [← hc]
      clear hc
      obtain ⟨d, hd⟩ : ∃ d, c ^^^ s[k].toNat = d := ⟨_, rfl⟩
      have hdl : d < 4294967296 := by rw [← hd]; exact xb_lt hcl _
      have HD : Hid (crc1 c s[k] = hsN 8 d) := by rw [← hd]; rfl
      rw [hd] at hxr
      clear hd
      obtain ⟨r, hr⟩ : ∃ r, d % 16 = r := ⟨_, rfl⟩
      have hrl : r < 16 := by omega
      have hr' : (d : Int) % 16 = (r : Int) := by omega
      have h1 := Steps.cell HT.out r hrl
      obtain ⟨v, hv⟩ : ∃ v, hsN 4 r = v := ⟨_, rfl⟩
      have hvl : v < 4294967296 := by rw [← hv]; exact hsN_lt 4 (by omega)
      rw [hv] at h1
      have hx1 : bits .xor .u32 ((d : Int) / 16) (v : Int) = ((d / 16 ^^^ v : Nat) : Int) := by
        have := u32_xor_nat (d / 16) v (by omega) hvl
        simpa using this
      obtain ⟨d2, hd2⟩ : ∃ d2, d / 16 ^^^ v = d2 := ⟨_, rfl⟩
      have hd2l : d2 < 4294967296 := by rw [← hd2]; exact Nat.xor_lt_two_pow (n := 32) (by omega) (by omega)
      have HD2 : Hid (hsN 4 d = d2) := by show _ = _; rw [four_steps, hr, hv, hd2]
      rw [hd2] at hx1
      clear hd2 hv hr
      obtain ⟨r2, hr2⟩ : ∃ r2, d2 % 16 = r2 := ⟨_, rfl⟩
      have hr2l : r2 < 16 := by omega
      have hr2' : (d2 : Int) % 16 = (r2 : Int) := by omega
      have h2 := Steps.cell HT.out r2 hr2l
      obtain ⟨v2, hv2⟩ : ∃ v2, hsN 4 r2 = v2 := ⟨_, rfl⟩
      have hv2l : v2 < 4294967296 := by rw [← hv2]; exact hsN_lt 4 (by omega)
      rw [hv2] at h2
      have hx2 : bits .xor .u32 ((d2 : Int) / 16) (v2 : Int) = ((d2 / 16 ^^^ v2 : Nat) : Int) := by
        have := u32_xor_nat (d2 / 16) v2 (by omega) hv2l
        simpa using this
      have HX : Hid (d2 / 16 ^^^ v2 = crc x (s.data.toList.take (k + 1))) := by
        show _ = _
        rw [HC.out, HD.out, show (8 : Nat) = 4 + 4 from rfl, hsN_add, HD2.out, four_steps d2, hr2, hv2]
      clear hv2 hr2
      go_wp2
      go_roundg g
      case measure => omega
      case rel => exact ⟨k + 1, by omega, by go_num, by rw [HX.out], rfl⟩

theorem implSumMore_any (x : Nat) (hx : x < 4294967296) (s : ByteArray) (hs : s.size ≤ 140737488355328) (w : World) (ht : Steps w) :
    Calls Tryz.prog 92 #[.int .u32 x, .string s] w fun e w' => e = .returned (.int .u32 (crc x s.data.toList)) ∧ w' = w := by
  have C := (show Hid _ from more_any x hx s hs w ht)
  clear ht
  go_enter Tryz.func92, Tryz.ntmps92
  go_wp2_with fail
  refine Calls.mono C.out ?_
  rintro e w1 ⟨rfl, hw⟩
  rw [hw]
  go_wp2
  go_ret
  exact ⟨rfl, rfl⟩

end Go.Proofs.YtoanhjjigbjecaaGreatDoor
