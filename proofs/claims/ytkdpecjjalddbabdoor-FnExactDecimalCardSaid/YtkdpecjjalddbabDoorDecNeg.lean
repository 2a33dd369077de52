/-
  The walk of spec.Decimal: what it answers at a number below 0.
-/
import Derived.Test.YtkdpecjjalddbabDoorDecS
namespace Go.Proofs.YtkdpecjjalddbabDoor
open Go.RowKit

theorem neg_tmod (a : Nat) : (-(a : Int)).tmod 10 = -((a : Int) % 10) := by rw [Int.neg_tmod, Int.tmod_eq_emod_of_nonneg (by omega)]
theorem neg_tdiv (a : Nat) : (-(a : Int)).tdiv 10 = -((a : Int) / 10) := by rw [Int.neg_tdiv, Int.tdiv_eq_ediv_of_nonneg (by omega)]
theorem ret_neg {a b : List UInt8} (h : a = b) : Ending.returned (.string (⟨#[45]⟩ ++ ⟨a.toArray⟩)) = .returned (.string ⟨(45 :: b).toArray⟩) := by
  rw [h, show (⟨#[45]⟩ : ByteArray) ++ ⟨b.toArray⟩ = ⟨(45 :: b).toArray⟩ from ByteArray.mk_append_mk [45] b]

set_option maxRecDepth 1000000 in
set_option maxHeartbeats 1000000 in
theorem specDecimal_neg (n : Nat) (h0 : 0 < n) (hn : n ≤ 9223372036854775808) (w : World) :
    Calls Tryd.prog 5 #[.int .i64 (-(n : Int))] w fun e w' => e = .returned (.string ⟨(dec (-(n : Int))).toArray⟩) ∧ Below w.heap.size w w' := by
  have g0 : (-(n : Int) == 0) = false := by rw [beq_eq_false_iff_ne]; omega
  have g1 : -(n : Int) < 0 := by omega
  have hdl := dd_len 19 n (by omega)
  have hde : dec (-(n : Int)) = 45 :: dd n := by unfold dec; rw [if_neg (by omega), if_pos g1, Int.natAbs_neg, Int.natAbs_natCast]
  rw [hde]
  clear hde
  go_enter Tryd.func5, Tryd.ntmps5
  go_wp2
  go_loopw [0, 4, 5] (fun x t _ wr => ∃ (m : Nat) (acc : List UInt8), m ≤ n ∧ x = .int .i64 (-(m : Int)) ∧ t = .string ⟨acc.toArray⟩ ∧ Hid (dd m ++ acc = dd n) ∧ acc.length ≤ 19 ∧ Below w.heap.size w wr) (fun x _ _ _ => (intOf x).natAbs)
  case atStart => exact ⟨n, [], Nat.le_refl _, rfl, rfl, by simp [Hid], by simp, Below.refl _ _⟩
  case round =>
    obtain ⟨m, acc, hm, rfl, rfl, HA, hal, hb⟩ := hrel
    have hsz := hb.size
    by_cases hm0 : 0 < m
    · have g2 : (-(m : Int) != 0) = true := by simp; omega
      have hf := fig_bd (x := (m : Int) % 10) (by omega) (by omega)
      obtain ⟨f1, f2⟩ := hf
      have ht := fun wx => one_text (fig ((m : Int) % 10)) (by omega) (by omega) wx
      have HS := (show Hid _ from dec_step hm0 HA.out)
      have HL : Hid ((UInt8.ofNat (fig ((m : Int) % 10)).toNat :: acc).length ≤ 19) := by
        have := congrArg List.length HS.out
        simp only [List.length_append] at this
        show _ ≤ _
        omega
      have e1 := neg_tmod m
      have e2 := neg_tdiv m
      by_cases hd : (m : Int) % 10 = 0
      · have hd1 : ¬ -((m : Int) % 10) < 0 := by omega
        have C0 : Hid (∀ wx : World, Calls Tryd.prog 9 #[.int .i64 (-((m : Int) % 10))] wx fun e w' => e = .returned (.int .u8 (fig ((m : Int) % 10))) ∧ w' = wx) := by
          intro wx
          have e : -((m : Int) % 10) = (m : Int) % 10 := by omega
          rw [e]
          exact l01Figure_any _ (by omega) (by omega) wx
        clear hd
        go_wp2_with (go_at_call 9; refine (C0.out _).mono ?_; rintro e w' ⟨rfl, hw⟩; rw [hw]; clear hw w')
        go_roundw
        case rel => exact ⟨m / 10, UInt8.ofNat (fig ((m : Int) % 10)).toNat :: acc, by omega, by go_num, by simp [ByteArray.mk_append_mk], HS, HL.out, hb.alloc hb.size _⟩
        case measure => simp [intOf]; omega
      · have hd1 : -((m : Int) % 10) < 0 := by omega
        clear hd
        go_wp2_with (go_at_call 9; refine (l01Figure_any _ ?_ ?_ _).mono ?_; (focus omega); (focus omega); rintro e w' ⟨rfl, hw⟩; rw [hw]; clear hw w')
        go_roundw
        case rel => exact ⟨m / 10, UInt8.ofNat (fig ((m : Int) % 10)).toNat :: acc, by omega, by go_num, by simp [ByteArray.mk_append_mk], HS, HL.out, hb.alloc hb.size _⟩
        case measure => simp [intOf]; omega
    · have g2 : (-(m : Int) != 0) = false := by simp; omega
      have HE : Hid (acc = dd n) := by
        have h := HA.out
        have e : m = 0 := by omega
        rw [e, dd_zero] at h
        exact h
      go_wp2
      go_ret
      exact ⟨ret_neg HE.out, hb⟩
end Go.Proofs.YtkdpecjjalddbabDoor
