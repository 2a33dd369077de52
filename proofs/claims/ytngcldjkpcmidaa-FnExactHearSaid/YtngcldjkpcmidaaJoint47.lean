/-
  The walk of impl.(*endpoint).takeBody: a text that comes is taken or kept, then the early ones whose turn it is.
-/
import Derived.Test.YtngcldjkpcmidaaJoint45
import Derived.Test.YtngcldjkpcmidaaJoint46
namespace Go.Proofs.Ytngcldjkpcmidaa
open Go.RowKit

set_option maxRecDepth 1000000 in
set_option maxHeartbeats 4000000 in
theorem takeBody_any (lo g : Nat) (d : StrD) (now : Int) (out : List SegD) (num : Int) (text : ByteArray) (ht : text.size ≤ 8) (hi : d.inn.size ≤ 1000) (hf : FewL d.late) (w : World) (h : EpIs w lo g d now out) :
    Calls Try.prog 58 #[.pointer (some ⟨g, 0, none⟩), .int .i64 num, .string text] w fun e w' => e = .returned (.tuple #[]) ∧ HrTo lo g w w' (bodyD num text d) now out := by
  have HFW := hid hf
  have hlen8 := hf.1
  have H0 := hid h.hr
  clear hf
  obtain ⟨_, ao0, cap0, ov0, oc0, hb0, _, _⟩ := h
  have c10 := hb0.cell (j := 10) rfl
  have f10 := hb0.thaw 10
  clear hb0
  obtain ⟨W0, hW0⟩ : ∃ W, w.setCell ⟨g, 10, none⟩ (.bool true) = W := ⟨_, rfl⟩
  have H1 : Hid (HrTo lo g w W0 (oweD d) now out) := by rw [← hW0]; exact H0.out.owe true
  clear H0
  obtain ⟨d1, hd1⟩ : ∃ x, oweD d = x := ⟨_, rfl⟩
  have HB : Hid (bodyD num text d = lateD (newsD num text d1).late.length (newsD num text d1)) := by show _ = _; rw [← hd1]; rfl
  have hl1 : d1.late = d.late := by rw [← hd1]; rfl
  have hn1 : d1.inn = d.inn := by rw [← hd1]; rfl
  rw [hd1] at H1
  clear hd1
  have HF1 : Hid (FewL d1.late) := by rw [hl1]; exact HFW.out
  have hi1 : d1.inn.size ≤ 1000 := by rw [hn1]; exact hi
  have hlen1 : d1.late.length ≤ 8 := HF1.out.1
  clear hl1 hn1 HFW hlen8 hi
  have HF2 : Hid (FewL (newsD num text d1).late) := newsD_few HF1.out ht
  have hi2 : (newsD num text d1).inn.size ≤ 1008 := by have := newsD_inn num text d1; omega
  obtain ⟨_, ao1, cap1, ov1, oc1, hb1, _, _⟩ := H1.out.1.1
  have c3 := hb1.cell (j := 3) rfl
  clear hb1
  have CR := hid (isReached_any lo g d1 now out num W0 H1.out.1.1)
  obtain ⟨N2, hN2⟩ : ∃ N : Int, gapNum d1.rcv num = N := ⟨_, rfl⟩
  have CG2 := hid (implGap_any d1.rcv num W0)
  rw [hN2] at CG2
  have HNW : Hid (newsD num text d1 = if reached d1.rcv num = true then takeD num text d1 else if N2 < 64 then keepD num text d1 else d1) := by show _ = _; rw [newsD, hN2]
  clear hN2
  have CTL : Hid (∀ W, HrTo lo g w W (newsD num text d1) now out → Calls Try.prog 66 #[.pointer (some ⟨g, 0, none⟩)] W fun e w' => e = .returned (.tuple #[]) ∧ HrTo lo g w w' (bodyD num text d) now out) := by
    intro W hW
    refine (takeLate_any lo g _ now out HF2.out (by omega) W hW.1.1).mono ?_
    rintro e w' ⟨rfl, h'⟩
    exact ⟨rfl, by rw [HB.out]; exact hW.trans h'⟩
  cases hr : reached d1.rcv num with
  | true =>
    rw [hr] at CR
    have HR : Hid (newsD num text d1 = takeD num text d1) := by show _ = _; rw [HNW.out, hr]; rfl
    clear hr
    have CT := hid (takeNew_any lo g d1 now out num text (by omega) (by omega) W0 H1.out.1.1)
    go_enter Try.func58, Try.ntmps58
    go_wp2_with fail
    refine Calls.mono CR.out ?_
    rintro e w9 ⟨rfl, hw9⟩
    rw [hw9]
    clear hw9 w9 CR
    go_wp2_with fail
    refine Calls.mono CT.out ?_
    rintro e w2 ⟨rfl, h2⟩
    have H2 := hid (H1.out.trans h2)
    clear h2 CT
    go_wp2_with fail
    refine Calls.mono (CTL.out _ (by rw [HR.out]; exact H2.out)) ?_
    rintro e w8 ⟨rfl, h8⟩
    have H8 := hid h8
    clear h8
    go_wp2
    go_end0
    exact ⟨rfl, H8.out⟩
  | false =>
    rw [hr] at CR
    by_cases q2 : N2 < 64
    · have HR : Hid (newsD num text d1 = keepD num text d1) := by show _ = _; rw [HNW.out, hr, if_neg (by simp), if_pos q2]
      clear hr
      have CT := hid (keepLate_any lo g d1 now out num text (by omega) (by omega) W0 H1.out.1.1)
      go_enter Try.func58, Try.ntmps58
      go_wp2_with fail
      refine Calls.mono CR.out ?_
      rintro e w9 ⟨rfl, hw9⟩
      rw [hw9]
      clear hw9 w9 CR
      go_wp2_with fail
      refine Calls.mono CG2.out ?_
      rintro e w9 ⟨rfl, hw9⟩
      rw [hw9]
      clear hw9 w9 CG2
      go_wp2_with fail
      refine Calls.mono CT.out ?_
      rintro e w2 ⟨rfl, h2⟩
      have H2 := hid (H1.out.trans h2)
      clear h2 CT
      go_wp2_with fail
      refine Calls.mono (CTL.out _ (by rw [HR.out]; exact H2.out)) ?_
      rintro e w8 ⟨rfl, h8⟩
      have H8 := hid h8
      clear h8
      go_wp2
      go_end0
      exact ⟨rfl, H8.out⟩
    · have HR : Hid (newsD num text d1 = d1) := by show _ = _; rw [HNW.out, hr, if_neg (by simp), if_neg q2]
      clear hr
      go_enter Try.func58, Try.ntmps58
      go_wp2_with fail
      refine Calls.mono CR.out ?_
      rintro e w9 ⟨rfl, hw9⟩
      rw [hw9]
      clear hw9 w9 CR
      go_wp2_with fail
      refine Calls.mono CG2.out ?_
      rintro e w9 ⟨rfl, hw9⟩
      rw [hw9]
      clear hw9 w9 CG2
      go_wp2_with fail
      refine Calls.mono (CTL.out _ (by rw [HR.out]; exact H1.out)) ?_
      rintro e w8 ⟨rfl, h8⟩
      have H8 := hid h8
      clear h8
      go_wp2
      go_end0
      exact ⟨rfl, H8.out⟩
end Go.Proofs.Ytngcldjkpcmidaa
