/-
  The walk of spec.l01Figure: the figure of a number from 0 to 15.
  The walk of spec.Decimal: what it answers at a number that is not below 0.
-/
import Derived.Test.YtoanhjjigbjecaaGreatDoorRows
import Derived.Test.YtoanhjjigbjecaaGreatDoorJoint1
import Derived.WalkKit
namespace Go.Proofs.YtoanhjjigbjecaaGreatDoor
open Go.RowKit

theorem l01Figure_any (x : Int) (h0 : 0 ≤ x) (h1 : x ≤ 15) (w : World) :
    Calls Tryz.prog 91 #[.int .i64 x] w fun e w' => e = .returned (.int .u8 (fig x)) ∧ w' = w := by
  by_cases h : x < 10
  · have hf : fig x = 48 + x := if_pos h
    rw [hf]
    go_enter Tryz.func91, Tryz.ntmps91
    go_wp2
    go_ret
    exact ⟨rfl, rfl⟩
  · have hf : fig x = 87 + x := if_neg h
    rw [hf]
    have e : (97 : Int) + x - 10 = 87 + x := by omega
    have HE : Hid ((97 : Int) + x - 10 = 87 + x) := e
    clear e hf
    go_enter Tryz.func91, Tryz.ntmps91
    go_wp2
    go_ret
    exact ⟨by simp [HE.out], rfl⟩
end Go.Proofs.YtoanhjjigbjecaaGreatDoor

namespace Go.Proofs.YtoanhjjigbjecaaGreatDoor
open Go.RowKit

theorem one_text (x : Int) (h0 : 0 ≤ x) (h1 : x ≤ 255) (w : World) :
    (convert 22 9 (.slice (some ⟨w.heap.size, 0, none⟩) 1 1)).run Tryz.prog (w.alloc (.cells #[.int .u8 x] 5)) = .ok (.string ⟨#[UInt8.ofNat x.toNat]⟩) (w.alloc (.cells #[.int .u8 x] 5)) := by
  have := run_convert_bytes_back (P := Tryz.prog) (w.alloc (.cells #[.int .u8 x] 5)) 22 9 5 ⟨w.heap.size, 0, none⟩ 1 [UInt8.ofNat x.toNat] Tryz.underlying22 Tryz.underlying5 Tryz.underlying9
    (by
      intro j hj
      have hj0 : j = 0 := by simpa using hj
      subst hj0
      have e : ((UInt8.ofNat x.toNat).toNat : Int) = x := by rw [UInt8.toNat_ofNat']; omega
      show (w.alloc (.cells #[.int .u8 x] 5)).cell? ⟨w.heap.size, 0, none⟩ = some (.int .u8 ((UInt8.ofNat x.toNat).toNat : Int))
      rw [e]
      simp)
  exact this

theorem ret_text {a b : List UInt8} (h : a = b) : Ending.returned (.string ⟨a.toArray⟩) = .returned (.string ⟨b.toArray⟩) := by rw [h]

theorem dec_step {n m : Nat} {acc : List UInt8} (hm : 0 < m) (h : dd m ++ acc = dd n) : dd (m / 10) ++ (UInt8.ofNat (fig ((m : Int) % 10)).toNat :: acc) = dd n := by
  rw [← h, dd_pos hm]
  have e : (fig ((m : Int) % 10)).toNat = 48 + m % 10 := by unfold fig; rw [if_pos (by omega)]; omega
  rw [e]
  simp

set_option maxRecDepth 1000000 in
set_option maxHeartbeats 1000000 in
theorem specDecimal_nat (n : Nat) (hn : n < 9223372036854775808) (w : World) :
    Calls Tryz.prog 59 #[.int .i64 n] w fun e w' => e = .returned (.string ⟨(dec n).toArray⟩) ∧ Below w.heap.size w w' := by
  by_cases h0 : n = 0
  · subst h0
    go_enter Tryz.func59, Tryz.ntmps59
    go_wp2
    go_ret
    exact ⟨rfl, Below.refl _ _⟩
  · have g0 : ((n : Int) == 0) = false := by rw [beq_eq_false_iff_ne]; omega
    have g1 : ¬ (n : Int) < 0 := by omega
    have hdl := dd_len 19 n (by omega)
    have hde : dec n = dd n := by unfold dec; rw [if_neg (by omega), if_neg (by omega), Int.natAbs_natCast]
    rw [hde]
    have HD := (show Hid _ from hde)
    clear hde
    go_enter Tryz.func59, Tryz.ntmps59
    go_wp2
    go_loopw [0, 4, 5] (fun x t _ wr => ∃ (m : Nat) (acc : List UInt8), m ≤ n ∧ x = .int .i64 m ∧ t = .string ⟨acc.toArray⟩ ∧ Hid (dd m ++ acc = dd n) ∧ acc.length ≤ 19 ∧ Below w.heap.size w wr) (fun x _ _ _ => (intOf x).toNat)
    case atStart => exact ⟨n, [], Nat.le_refl _, rfl, rfl, by simp [Hid], by simp, Below.refl _ _⟩
    case round =>
      obtain ⟨m, acc, hm, rfl, rfl, HA, hal, hb⟩ := hrel
      have hsz := hb.size
      by_cases hm0 : 0 < m
      · have g2 : ((m : Int) != 0) = true := by simp; omega
        have hf := fig_bd (x := (m : Int) % 10) (by omega) (by omega)
        obtain ⟨f1, f2⟩ := hf
        have ht := fun wx => one_text (fig ((m : Int) % 10)) (by omega) (by omega) wx
        have HS := (show Hid _ from dec_step hm0 HA.out)
        have HL : Hid ((UInt8.ofNat (fig ((m : Int) % 10)).toNat :: acc).length ≤ 19) := by
          have := congrArg List.length HS.out
          simp only [List.length_append] at this
          show _ ≤ _
          omega
        go_wp2_with (go_at_call 91; refine (l01Figure_any _ ?_ ?_ _).mono ?_; (focus omega); (focus omega); rintro e w' ⟨rfl, hw⟩; rw [hw]; clear hw w')
        go_roundw
        case rel => exact ⟨m / 10, UInt8.ofNat (fig ((m : Int) % 10)).toNat :: acc, by omega, by go_num, by simp [ByteArray.mk_append_mk], HS, HL.out, hb.alloc hb.size _⟩
        case measure => simp [intOf]; omega
      · have g2 : ((m : Int) != 0) = false := by simp; omega
        have HE : Hid (acc = dd n) := by
          have h := HA.out
          have e : m = 0 := by omega
          rw [e, dd_zero] at h
          exact h
        go_wp2
        go_ret
        exact ⟨ret_text HE.out, hb⟩
end Go.Proofs.YtoanhjjigbjecaaGreatDoor
