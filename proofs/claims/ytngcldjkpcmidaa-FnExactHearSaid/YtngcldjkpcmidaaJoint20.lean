/-
  The walk of spec.l13Ack: what was acknowledged is gone.
-/
import Derived.Test.YtngcldjkpcmidaaJoint1
import Derived.Test.YtngcldjkpcmidaaJoint17
import Derived.Test.YtngcldjkpcmidaaJoint19
namespace Go.Proofs.Ytngcldjkpcmidaa
open Go.RowKit

set_option maxRecDepth 1000000 in
set_option maxHeartbeats 4000000 in
theorem l13Ack_any (lo g : Nat) (d : StrD) (ack : Int) (hs : 0 ≤ d.sent ∧ d.sent ≤ 24) (hsw : d.sent ≤ d.wait.size) (hw : d.wait.size ≤ 200) (w : World) (h : StIs w lo g d) :
    Calls Try.prog 35 #[.pointer (some ⟨g, 0, none⟩), .int .i64 ack] w fun e w' => e = .returned (.tuple #[]) ∧ HsTo lo g w w' (ackD ack d) := by
  have H := hid h.hs
  obtain ⟨s1, s2⟩ := hs
  obtain ⟨N, hN⟩ : ∃ N : Nat, gapNum d.una ack = (N : Int) := ⟨(gapNum d.una ack).toNat, by have := gapNum_bd d.una ack; omega⟩
  have hN2 : (N : Int) ≤ 65535 := by have := gapNum_bd d.una ack; omega
  obtain ⟨S, hS⟩ : ∃ S : Nat, d.sent = (S : Int) := ⟨d.sent.toNat, by omega⟩
  have HA0 : Hid (ackD ack d = (if (N : Int) < 1 ∨ flightD d < (N : Int) then d else { d with fin := if d.sent < (N : Int) then 3 else d.fin, wait := d.wait.extract (min (N : Int) d.sent).toNat d.wait.size, sent := d.sent - min (N : Int) d.sent, una := ack, times := 0 })) := by show _ = _; rw [ackD, hN]
  have HF0 : Hid (flightD d = (if d.fin = 2 then (S : Int) + 1 else (S : Int))) := by show _ = _; rw [flightD, hS]
  have CG' := specGap_any d.una ack w
  rw [hN] at CG'
  have CG := hid CG'
  clear CG' hN
  obtain ⟨_, ao, cap, hb, _⟩ := h
  have c2 := hb.cell (j := 2) rfl
  have c4 := hb.cell (j := 4) rfl
  have c5 := hb.cell (j := 5) rfl
  have c6 := hb.cell (j := 6) rfl
  have c12 := hb.cell (j := 12) rfl
  have f2 := hb.thaw 2
  have f4 := hb.thaw 4
  have f5 := hb.thaw 5
  have f6 := hb.thaw 6
  have f12 := hb.thaw 12
  clear hb
  rw [hS] at c5 s1 s2 hsw HA0
  clear hS
  by_cases q0 : d.fin = 2
  · have q0b : (d.fin == 2) = true := by rw [beq_iff_eq]; exact q0
    rw [if_pos q0] at HF0
    rw [HF0.out] at HA0
    clear q0
    by_cases q1 : (N : Int) < 1
    · have HR : Hid (ackD ack d = d) := by show _ = _; rw [HA0.out, if_pos (Or.inl q1)]
      go_enter Try.func35, Try.ntmps35
      go_wp2_with fail
      refine Calls.mono CG.out ?_
      rintro e w1 ⟨rfl, hw1⟩
      rw [hw1]
      clear hw1 w1 CG
      go_wp2
      refine bodyPost_ret (v := .tuple #[]) (by simp [results, Try.results35]) rfl ?_
      exact ⟨rfl, by rw [HR.out]; exact H.out⟩
    by_cases q2 : (S : Int) + 1 < (N : Int)
    · have HR : Hid (ackD ack d = d) := by show _ = _; rw [HA0.out, if_pos (Or.inr q2)]
      go_enter Try.func35, Try.ntmps35
      go_wp2_with fail
      refine Calls.mono CG.out ?_
      rintro e w1 ⟨rfl, hw1⟩
      rw [hw1]
      clear hw1 w1 CG
      go_wp2
      refine bodyPost_ret (v := .tuple #[]) (by simp [results, Try.results35]) rfl ?_
      exact ⟨rfl, by rw [HR.out]; exact H.out⟩
    rw [if_neg (by omega)] at HA0
    by_cases q3 : (S : Int) < (N : Int)
    · skip
      obtain ⟨tx, htx⟩ : ∃ tx, d.wait.extract S d.wait.size = tx := ⟨_, rfl⟩
      have HR : Hid (ackD ack d = { d with fin := 3, wait := tx, sent := 0, una := ack, times := 0 }) := by show _ = _; rw [HA0.out, show min (N : Int) (S : Int) = (S : Int) by omega, Int.toNat_natCast, htx, if_pos (by omega), Int.sub_self]
      have i1 : S ≤ d.wait.size := by omega
      have i2 : (S : Int) ≤ (d.wait.size : Int) := by omega
      have CL' := fun w => l13Less_any (N : Int) (S : Int) w
      rw [show min (N : Int) (S : Int) = (S : Int) by omega] at CL'
      have CL := hid CL'
      clear CL'
      go_enter Try.func35, Try.ntmps35
      go_wp2_with fail
      refine Calls.mono CG.out ?_
      rintro e w1 ⟨rfl, hw1⟩
      rw [hw1]
      clear hw1 w1 CG
      go_wp2_with fail
      refine Calls.mono (CL.out _) ?_
      rintro e w1 ⟨rfl, hw1⟩
      rw [hw1]
      clear hw1 w1 CL
      go_wp2
      go_end0
      exact ⟨rfl, by rw [HR.out]; exact ((((H.out.fin 3).wait tx).sent _).una ack).times 0⟩
    · skip
      obtain ⟨tx, htx⟩ : ∃ tx, d.wait.extract N d.wait.size = tx := ⟨_, rfl⟩
      have HR : Hid (ackD ack d = { d with wait := tx, sent := (S : Int) - (N : Int), una := ack, times := 0 }) := by show _ = _; rw [HA0.out, show min (N : Int) (S : Int) = (N : Int) by omega, Int.toNat_natCast, htx, if_neg (by omega)]
      have i1 : N ≤ d.wait.size := by omega
      have i2 : (N : Int) ≤ (d.wait.size : Int) := by omega
      have CL' := fun w => l13Less_any (N : Int) (S : Int) w
      rw [show min (N : Int) (S : Int) = (N : Int) by omega] at CL'
      have CL := hid CL'
      clear CL'
      go_enter Try.func35, Try.ntmps35
      go_wp2_with fail
      refine Calls.mono CG.out ?_
      rintro e w1 ⟨rfl, hw1⟩
      rw [hw1]
      clear hw1 w1 CG
      go_wp2_with fail
      refine Calls.mono (CL.out _) ?_
      rintro e w1 ⟨rfl, hw1⟩
      rw [hw1]
      clear hw1 w1 CL
      go_wp2
      go_end0
      exact ⟨rfl, by rw [HR.out]; exact (((H.out.wait tx).sent _).una ack).times 0⟩
  · have q0b : (d.fin == 2) = false := by rw [beq_eq_false_iff_ne]; exact q0
    rw [if_neg q0] at HF0
    rw [HF0.out] at HA0
    clear q0
    by_cases q1 : (N : Int) < 1
    · have HR : Hid (ackD ack d = d) := by show _ = _; rw [HA0.out, if_pos (Or.inl q1)]
      go_enter Try.func35, Try.ntmps35
      go_wp2_with fail
      refine Calls.mono CG.out ?_
      rintro e w1 ⟨rfl, hw1⟩
      rw [hw1]
      clear hw1 w1 CG
      go_wp2
      refine bodyPost_ret (v := .tuple #[]) (by simp [results, Try.results35]) rfl ?_
      exact ⟨rfl, by rw [HR.out]; exact H.out⟩
    by_cases q2 : (S : Int) < (N : Int)
    · have HR : Hid (ackD ack d = d) := by show _ = _; rw [HA0.out, if_pos (Or.inr q2)]
      go_enter Try.func35, Try.ntmps35
      go_wp2_with fail
      refine Calls.mono CG.out ?_
      rintro e w1 ⟨rfl, hw1⟩
      rw [hw1]
      clear hw1 w1 CG
      go_wp2
      refine bodyPost_ret (v := .tuple #[]) (by simp [results, Try.results35]) rfl ?_
      exact ⟨rfl, by rw [HR.out]; exact H.out⟩
    rw [if_neg (by omega)] at HA0
    obtain ⟨tx, htx⟩ : ∃ tx, d.wait.extract N d.wait.size = tx := ⟨_, rfl⟩
    have HR : Hid (ackD ack d = { d with wait := tx, sent := (S : Int) - (N : Int), una := ack, times := 0 }) := by show _ = _; rw [HA0.out, show min (N : Int) (S : Int) = (N : Int) by omega, Int.toNat_natCast, htx, if_neg (by omega)]
    have i1 : N ≤ d.wait.size := by omega
    have i2 : (N : Int) ≤ (d.wait.size : Int) := by omega
    have CL' := fun w => l13Less_any (N : Int) (S : Int) w
    rw [show min (N : Int) (S : Int) = (N : Int) by omega] at CL'
    have CL := hid CL'
    clear CL'
    go_enter Try.func35, Try.ntmps35
    go_wp2_with fail
    refine Calls.mono CG.out ?_
    rintro e w1 ⟨rfl, hw1⟩
    rw [hw1]
    clear hw1 w1 CG
    go_wp2_with fail
    refine Calls.mono (CL.out _) ?_
    rintro e w1 ⟨rfl, hw1⟩
    rw [hw1]
    clear hw1 w1 CL
    go_wp2
    go_end0
    exact ⟨rfl, by rw [HR.out]; exact (((H.out.wait tx).sent _).una ack).times 0⟩
end Go.Proofs.Ytngcldjkpcmidaa
