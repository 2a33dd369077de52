/-
  The walk of spec.l13Again: something was sent.
-/
import Derived.Test.YtcmcmhiodkjflaaJoint1
import Derived.Test.YtcmcmhiodkjflaaJoint16
import Derived.Test.YtcmcmhiodkjflaaJoint17
namespace Go.Proofs.Ytcmcmhiodkjflaa
open Go.RowKit

set_option maxRecDepth 1000000 in
set_option maxHeartbeats 2000000 in
theorem l13Again_any (lo g : Nat) (d : StrD) (now : Int) (ht : 0 ≤ d.times ∧ d.times ≤ 12) (hn : 0 ≤ now ∧ now ≤ 1000000000) (w : World) (h : StIs w lo g d) :
    Calls Try.prog 24 #[.pointer (some ⟨g, 0, none⟩), .int .i64 now] w fun e w' => e = .returned (.tuple #[]) ∧ StTo lo g w w' { pauseD now d with owe := false } ∧ ∀ p ty cs, BlockIs w p ty cs → ty ≠ 28 → BlockIs w' p ty cs := by
  have hP0 : ∀ p ty cs, BlockIs w p ty cs → ty ≠ 28 → g ≠ p := fun p ty cs hp hne e => by
    obtain ⟨_, _, _, hb, _⟩ := h
    subst e
    exact hne (block_one hp hb).1
  have HP0 := hid hP0
  clear hP0
  obtain ⟨n1, n2⟩ := hn
  obtain ⟨t1, t2⟩ := ht
  have H := hid h.to
  obtain ⟨_, ao, cap, hb, _⟩ := h
  have c12 := hb.cell (j := 12) rfl
  have f12 := hb.thaw 12
  clear hb
  obtain ⟨t, hd⟩ : ∃ t, d.times = t := ⟨_, rfl⟩
  rw [hd] at c12 t1 t2
  obtain ⟨m, hm⟩ : ∃ m : Nat, min (t + 1) 12 = (m : Int) := ⟨(min (t + 1) 12).toNat, by omega⟩
  have hm2 : m ≤ 12 := by omega
  have HP : Hid ({ pauseD now d with owe := false } = { d with times := (m : Int), due := now + pow64 (m : Int), owe := false }) := by show _ = _; rw [pauseD, hd, moreT, hm]
  have hpb := pow64_bd (m : Int)
  obtain ⟨p1, p2⟩ := hpb
  have CL' := l13Less_any (t + 1) 12 w
  rw [hm] at CL'
  have CL := hid CL'
  clear CL' hm hd
  go_enter Try.func24, Try.ntmps24
  go_wp2_with fail
  refine Calls.mono CL.out ?_
  rintro e w1 ⟨rfl, hw1⟩
  rw [hw1]
  clear hw1 w1 CL
  have H1 := hid (H.out.times (m : Int))
  obtain ⟨_, ao1, cap1, hb1, _⟩ := H1.out.1
  have k12 := hb1.cell (j := 12) rfl
  have k11 := hb1.cell (j := 11) rfl
  have j11 := hb1.thaw 11
  have k10 := hb1.cell (j := 10) rfl
  have j10 := hb1.thaw 10
  clear hb1
  obtain ⟨V, hV⟩ : ∃ V, w.setCell ⟨g, 12, none⟩ (.int .i64 (m : Int)) = V := ⟨_, rfl⟩
  rw [hV] at H1 k12 k11 j11 k10 j10
  go_wp2_with fail
  refine Calls.mono (l13Power_any m hm2 _) ?_
  rintro e w1 ⟨rfl, hw1⟩
  rw [hw1]
  clear hw1 w1
  obtain ⟨p, hp⟩ : ∃ p, pow64 (m : Int) = p := ⟨_, rfl⟩
  rw [hp] at HP p1 p2
  simp only [hp]
  clear hp
  go_wp2
  go_end0
  exact ⟨rfl, by rw [HP.out]; exact (H1.out.due _).owe false, fun p ty cs hp hne => by rw [← hV]; exact ((hp.far (HP0.out p ty cs hp hne) _).far (HP0.out p ty cs hp hne) _).far (HP0.out p ty cs hp hne) _⟩
end Go.Proofs.Ytcmcmhiodkjflaa
