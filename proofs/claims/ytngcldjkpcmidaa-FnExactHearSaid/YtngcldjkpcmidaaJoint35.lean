/-
  The walk of impl.(*endpoint).takeAck: what was acknowledged is gone.
  The walk of impl.(*endpoint).takeFin: the other end's end.
-/
import Derived.Test.YtngcldjkpcmidaaJoint34
import Derived.Test.YtngcldjkpcmidaaJoint1
import Derived.Test.YtngcldjkpcmidaaJoint32
namespace Go.Proofs.Ytngcldjkpcmidaa
open Go.RowKit

set_option maxRecDepth 1000000 in
set_option maxHeartbeats 4000000 in
theorem takeAck_any (lo g : Nat) (d : StrD) (now : Int) (out : List SegD) (ack : Int) (hs : 0 ≤ d.sent ∧ d.sent ≤ 24) (hsw : d.sent ≤ d.wait.size) (hw : d.wait.size ≤ 200) (w : World) (h : EpIs w lo g d now out) :
    Calls Try.prog 57 #[.pointer (some ⟨g, 0, none⟩), .int .i64 ack] w fun e w' => e = .returned (.tuple #[]) ∧ HrTo lo g w w' (ackD ack d) now out := by
  have H := hid h
  obtain ⟨s1, s2⟩ := hs
  obtain ⟨N, hN⟩ : ∃ N : Nat, gapNum d.una ack = (N : Int) := ⟨(gapNum d.una ack).toNat, by have := gapNum_bd d.una ack; omega⟩
  have hN2 : (N : Int) ≤ 65535 := by have := gapNum_bd d.una ack; omega
  obtain ⟨S, hS⟩ : ∃ S : Nat, d.sent = (S : Int) := ⟨d.sent.toNat, by omega⟩
  have HA0 : Hid (ackD ack d = (if (N : Int) < 1 ∨ flightD d < (N : Int) then d else { d with fin := if d.sent < (N : Int) then 3 else d.fin, wait := d.wait.extract (min (N : Int) d.sent).toNat d.wait.size, sent := d.sent - min (N : Int) d.sent, una := ack, times := 0 })) := by show _ = _; rw [ackD, hN]
  have CG' := implGap_any d.una ack w
  rw [hN] at CG'
  have CG := hid CG'
  clear CG' hN
  obtain ⟨_, ao, cap, ov, oc, hb, _, _⟩ := h
  have c2 := hb.cell (j := 2) rfl
  have c4 := hb.cell (j := 4) rfl
  have c5 := hb.cell (j := 5) rfl
  have c6 := hb.cell (j := 6) rfl
  have c12 := hb.cell (j := 12) rfl
  have f2 := hb.thaw 2
  have f4 := hb.thaw 4
  have f5 := hb.thaw 5
  have f6 := hb.thaw 6
  have f12 := hb.thaw 12
  clear hb
  rw [hS] at c5 s1 s2 hsw HA0
  have CF' := flight_any lo g d now out ⟨by omega, by omega⟩ w H.out
  obtain ⟨fl, hfl⟩ : ∃ fl, flightD d = fl := ⟨_, rfl⟩
  have hflb : fl = (S : Int) ∨ fl = (S : Int) + 1 := by rw [← hfl, flightD, hS]; split <;> omega
  rw [hfl] at CF' HA0
  have CF := hid CF'
  clear CF' hfl hS
  by_cases q1 : (N : Int) < 1
  · have HR : Hid (ackD ack d = d) := by show _ = _; rw [HA0.out, if_pos (Or.inl q1)]
    go_enter Try.func57, Try.ntmps57
    go_wp2_with fail
    refine Calls.mono CG.out ?_
    rintro e w1 ⟨rfl, hw1⟩
    rw [hw1]
    clear hw1 w1
    go_wp2
    refine bodyPost_ret (v := .tuple #[]) (by simp [results, Try.results57]) rfl ?_
    exact ⟨rfl, by rw [HR.out]; exact H.out.hr⟩
  by_cases q2 : fl < (N : Int)
  · have HR : Hid (ackD ack d = d) := by show _ = _; rw [HA0.out, if_pos (Or.inr q2)]
    go_enter Try.func57, Try.ntmps57
    go_wp2_with fail
    refine Calls.mono CG.out ?_
    rintro e w1 ⟨rfl, hw1⟩
    rw [hw1]
    clear hw1 w1
    go_wp2_with fail
    refine Calls.mono CF.out ?_
    rintro e w1 ⟨rfl, hw1⟩
    rw [hw1]
    clear hw1 w1
    go_wp2
    refine bodyPost_ret (v := .tuple #[]) (by simp [results, Try.results57]) rfl ?_
    exact ⟨rfl, by rw [HR.out]; exact H.out.hr⟩
  rw [if_neg (by omega)] at HA0
  by_cases q3 : (S : Int) < (N : Int)
  · skip
    obtain ⟨tx, htx⟩ : ∃ tx, d.wait.extract S d.wait.size = tx := ⟨_, rfl⟩
    have HR : Hid (ackD ack d = { d with fin := 3, wait := tx, sent := 0, una := ack, times := 0 }) := by show _ = _; rw [HA0.out, show min (N : Int) (S : Int) = (S : Int) by omega, Int.toNat_natCast, htx, if_pos (by omega), Int.sub_self]
    have i1 : S ≤ d.wait.size := by omega
    have i2 : (S : Int) ≤ (d.wait.size : Int) := by omega
    go_enter Try.func57, Try.ntmps57
    go_wp2_with fail
    refine Calls.mono CG.out ?_
    rintro e w1 ⟨rfl, hw1⟩
    rw [hw1]
    clear hw1 w1
    go_wp2_with fail
    refine Calls.mono CF.out ?_
    rintro e w1 ⟨rfl, hw1⟩
    rw [hw1]
    clear hw1 w1
    clear CG CF hflb
    go_wp2
    all_goals
      go_end0
      exact ⟨rfl, by rw [HR.out]; exact ((((H.out.hr.fin 3).wait tx).sent _).una ack).times 0⟩
  · skip
    obtain ⟨tx, htx⟩ : ∃ tx, d.wait.extract N d.wait.size = tx := ⟨_, rfl⟩
    have HR : Hid (ackD ack d = { d with wait := tx, sent := (S : Int) - (N : Int), una := ack, times := 0 }) := by show _ = _; rw [HA0.out, show min (N : Int) (S : Int) = (N : Int) by omega, Int.toNat_natCast, htx, if_neg (by omega)]
    have i1 : N ≤ d.wait.size := by omega
    have i2 : (N : Int) ≤ (d.wait.size : Int) := by omega
    go_enter Try.func57, Try.ntmps57
    go_wp2_with fail
    refine Calls.mono CG.out ?_
    rintro e w1 ⟨rfl, hw1⟩
    rw [hw1]
    clear hw1 w1
    go_wp2_with fail
    refine Calls.mono CF.out ?_
    rintro e w1 ⟨rfl, hw1⟩
    rw [hw1]
    clear hw1 w1
    clear CG CF hflb
    go_wp2
    all_goals
      go_end0
      exact ⟨rfl, by rw [HR.out]; exact (((H.out.hr.wait tx).sent _).una ack).times 0⟩
end Go.Proofs.Ytngcldjkpcmidaa

namespace Go.Proofs.Ytngcldjkpcmidaa
open Go.RowKit

set_option maxRecDepth 1000000 in
set_option maxHeartbeats 4000000 in
theorem takeFin_any (lo g : Nat) (d : StrD) (now : Int) (out : List SegD) (num : Int) (w : World) (h : EpIs w lo g d now out) :
    Calls Try.prog 59 #[.pointer (some ⟨g, 0, none⟩), .int .i64 num] w fun e w' => e = .returned (.tuple #[]) ∧ HrTo lo g w w' (endD num d) now out := by
  have H := hid h.hr
  obtain ⟨_, ao, cap, ov, oc, hb, _, _⟩ := h
  have c3 := hb.cell (j := 3) rfl
  have c7 := hb.cell (j := 7) rfl
  have c10 := hb.cell (j := 10) rfl
  have f3 := hb.thaw 3
  have f7 := hb.thaw 7
  have f10 := hb.thaw 10
  clear hb
  by_cases q1 : num = d.rcv
  rotate_left
  · have q1b : (num == d.rcv) = false := by rw [beq_eq_false_iff_ne]; exact q1
    have HR : Hid (endD num d = { d with owe := true }) := by show _ = _; rw [endD, if_neg (fun h => q1 h.1)]
    clear q1
    go_enter Try.func59, Try.ntmps59
    go_wp2
    go_end0
    exact ⟨rfl, by rw [HR.out]; exact H.out.owe true⟩
  have q1b : (num == d.rcv) = true := by rw [beq_iff_eq]; exact q1
  cases q2 : d.pf with
  | true =>
    have HR : Hid (endD num d = { d with owe := true }) := by show _ = _; rw [endD, if_neg (fun h => by rw [q2] at h; cases h.2)]
    rw [q2] at c7
    clear q1 q2
    go_enter Try.func59, Try.ntmps59
    go_wp2
    go_end0
    exact ⟨rfl, by rw [HR.out]; exact H.out.owe true⟩
  | false =>
    have HR : Hid (endD num d = { d with owe := true, pf := true, rcv := addNum d.rcv 1 }) := by show _ = _; rw [endD, if_pos ⟨q1, q2⟩]
    rw [q2] at c7
    clear q1 q2
    go_enter Try.func59, Try.ntmps59
    go_wp2_with fail
    refine Calls.mono (implAddNum_any d.rcv 1 _) ?_
    rintro e w1 ⟨rfl, hw1⟩
    rw [hw1]
    clear hw1 w1
    go_wp2
    go_end0
    exact ⟨rfl, by rw [HR.out]; exact ((H.out.owe true).pf true).rcv _⟩
end Go.Proofs.Ytngcldjkpcmidaa
