/-
  The walk of impl.(*endpoint).sendOpen.
-/
import Derived.Test.YtcmcmhiodkjflaaJoint30
import Derived.Test.YtcmcmhiodkjflaaJoint31
import Derived.Test.YtcmcmhiodkjflaaJoint32
import Derived.Test.YtcmcmhiodkjflaaJoint35
import Derived.Test.YtcmcmhiodkjflaaJoint36
import Derived.Deep.DeepCutAuto
namespace Go.Proofs.Ytcmcmhiodkjflaa
open Go.RowKit

theorem againB_try (now : Int) (d : StrD) : againB now d = (tryB now d && decide (0 < flightD d)) := by
  rw [againB, tryB]
  cases decide (d.due ≤ now) <;> cases decide (d.times < 12) <;> cases decide (0 < flightD d) <;> rfl
theorem sent_times (d : StrD) : (finD (waitD d)).times = d.times ∧ (finD (waitD d)).owe = d.owe ∧ (finD (waitD d)).sent = (roomD d : Int) := by
  unfold finD
  split <;> exact ⟨rfl, rfl, rfl⟩

set_option maxRecDepth 1000000 in
set_option maxHeartbeats 4000000 in
theorem sendOpen_any (lo g : Nat) (d : StrD) (now : Int) (hR : StrR d) (hnow : 0 ≤ now ∧ now ≤ 1000000000) (w : World) (h : EpIs w lo g d now []) :
    Calls Try.prog 51 #[.pointer (some ⟨g, 0, none⟩)] w fun e w' => e = .returned (.tuple #[]) ∧ EpTo lo g w w' (openD now d) now (openSegs now d) := by
  have H := hid h
  have HR := hid hR
  have hs := hR.sent
  have ht := hR.times
  have hs24 : 0 ≤ d.sent ∧ d.sent ≤ 1048576 := by omega
  have CT := hid (mayTry_any lo g d now [] w h)
  clear h
  go_enter Try.func51, Try.ntmps51
  go_upto_region 0 with fail
  go_cut [8] (fun c wx => c = .bool (againB now d) ∧ Hid (Below w.heap.size w wx))
  case first =>
    cases hT : tryB now d with
    | false =>
      rw [hT] at CT
      have HT := hid hT
      go_wp2_with fail
      refine Calls.mono CT.out ?_
      rintro e w1 ⟨rfl, b1⟩
      have B1 := hid b1
      clear b1 CT hT
      go_wp2_with fail
      go_meet
      exact ⟨by rw [againB_try, HT.out]; rfl, B1.out⟩
    | true =>
      rw [hT] at CT
      have HT := hid hT
      go_wp2_with fail
      refine Calls.mono CT.out ?_
      rintro e w1 ⟨rfl, b1⟩
      have B1 := hid b1
      clear b1 CT hT
      have CF := hid (flight_any lo g d now [] hs24 w1 (H.out.on B1.out))
      go_wp2_with (first | (go_at_call 65; with_reducible refine Calls.mono CF.out ?_; rintro e w2 ⟨rfl, hw2⟩; rw [hw2]; clear hw2 w2) | fail)
      go_meet
      exact ⟨by rw [againB_try, HT.out]; rfl, B1.out⟩
  case rest =>
    obtain ⟨rfl, HC⟩ := hcut
    have HE0 := hid (show EpTo lo g w wc d now [] from H.out.to.on HC.out)
    clear HC CT hR
    have HQ : Hid (sentD now d = finD (waitD (if againB now d = true then backD d else d)) ∧ sentSegs now d = waitSegs (if againB now d = true then backD d else d) ++ finSegs (waitD (if againB now d = true then backD d else d))) := ⟨rfl, rfl⟩
    cases hA : againB now d with
  | false =>
      rw [hA] at HQ
      simp only [Bool.false_eq_true, if_false] at HQ
      have p1 : 0 ≤ d.sent ∧ d.sent ≤ (roomD d : Int) := hs
      have p2 : d.wait.size ≤ 200 := HR.out.wait
      clear hA
      have HE1 := HE0
      go_wp2_with fail
      refine Calls.mono (sendWait_any lo g (d) now [] (by decide) p2 p1 _ HE1.out.1) ?_
      rintro e w5 ⟨rfl, h5⟩
      have HE5 := hid (HE1.out.trans h5)
      clear h5 HE1
      rw [List.nil_append] at HE5
      have hl5 := waitSegs_length (d)
      have hrm : (roomD (d) : Int) ≤ 24 := by unfold roomD; omega
      go_wp2_with fail
      refine Calls.mono (sendFin_any lo g (waitD (d)) now (waitSegs (d)) (by omega) (by show (d).wait.size ≤ _; omega) ⟨by show (0 : Int) ≤ (roomD (d) : Int); omega, by show (roomD (d) : Int) ≤ _; omega⟩ _ HE5.out.1) ?_
      rintro e w6 ⟨rfl, h6⟩
      have HE6 := hid (HE5.out.trans h6)
      clear h6 HE5
      have hst := sent_times (d)
      rw [← HQ.out.1, ← HQ.out.2] at HE6
      rw [← HQ.out.1] at hst
      have hlS : (sentSegs now d).length ≤ 26 := by rw [HQ.out.2, List.length_append]; have := finSegs_length (waitD (d)); omega
      obtain ⟨q1, q2, q3⟩ := hst
      have Q2 := hid q2
      have Q1 := hid q1
      clear q1 q2
      have HO : Hid (openD now d = (if (sentSegs now d).length = 0 then { sentD now d with owe := false } else { pauseD now (sentD now d) with owe := false })) := rfl
      have HS : Hid (openSegs now d = (if (sentSegs now d).length = 0 then (if d.owe = true then [oweSeg (sentD now d)] else []) else sentSegs now d)) := rfl
      obtain ⟨E, hE⟩ : ∃ E, sentD now d = E := ⟨_, rfl⟩
      obtain ⟨L, hL⟩ : ∃ L, sentSegs now d = L := ⟨_, rfl⟩
      rw [hE] at HE6 HO HS Q1 Q2 q3
      rw [hL] at HE6 HO HS hlS
      clear hE hL HQ
      obtain ⟨_, ao6, cap6, ov6, oc6, hb6, _, _⟩ := HE6.out.1
      have c14 := hb6.cell (j := 14) rfl
      have c10 := hb6.cell (j := 10) rfl
      have f10 := hb6.thaw 10
      clear hb6
      by_cases hz : L.length = 0
      rotate_left
      · have hzi : (0 : Int) < (L.length : Int) := by omega
        go_wp2_with fail
        refine Calls.mono (pause_any lo g E now L (by rw [Q1.out]; exact ht) hnow _ HE6.out.1) ?_
        rintro e w7 ⟨rfl, h7⟩
        have HE7 := hid (HE6.out.trans h7)
        clear h7 HE6 c14 c10 f10
        obtain ⟨_, ao7, cap7, ov7, oc7, hb7, _, _⟩ := HE7.out.1
        have c10 := hb7.cell (j := 10) rfl
        have f10 := hb7.thaw 10
        clear hb7
        go_wp2
        go_end0
        exact ⟨rfl, by rw [HO.out, HS.out, if_neg hz, if_neg hz]; exact HE7.out.owe false⟩
      obtain rfl : L = [] := List.length_eq_zero_iff.1 hz
      simp only [List.length_nil, if_true] at HO HS
      clear hz
      rw [Q2.out] at c10
      cases ho : d.owe with
      | false =>
        rw [ho] at c10 HS
        clear ho
        go_wp2
        go_end0
        exact ⟨rfl, by rw [HO.out, HS.out]; exact HE6.out.owe false⟩
      | true =>
        rw [ho] at c10 HS
        clear ho
        have hes : 0 ≤ E.sent ∧ E.sent ≤ 1048576 := by omega
        go_wp2_with fail
        refine Calls.mono (flight_any lo g E now [] hes _ HE6.out.1) ?_
        rintro e w2 ⟨rfl, hw2⟩
        rw [hw2]
        clear hw2 w2
        go_wp2_with fail
        refine Calls.mono (send_any lo g E now [] 2 (flightD E) ByteArray.empty (by decide) (by decide) _ HE6.out.1) ?_
        rintro e w7 ⟨rfl, h7⟩
        have HE7 := hid (HE6.out.trans h7)
        clear h7 HE6 c14 c10 f10
        obtain ⟨_, ao7, cap7, ov7, oc7, hb7, _, _⟩ := HE7.out.1
        have c10 := hb7.cell (j := 10) rfl
        have f10 := hb7.thaw 10
        clear hb7
        go_wp2
        go_end0
        exact ⟨rfl, by rw [HO.out, HS.out]; exact HE7.out.owe false⟩
  | true =>
      rw [hA] at HQ
      simp only [if_true] at HQ
      have p1 : 0 ≤ (backD d).sent ∧ (backD d).sent ≤ (roomD (backD d) : Int) := ⟨Int.le_refl 0, by show (0 : Int) ≤ (roomD (backD d) : Int); omega⟩
      have p2 : (backD d).wait.size ≤ 200 := HR.out.wait
      have P3 : Hid ((backD d).times = d.times) := rfl
      have P4 : Hid ((backD d).owe = d.owe) := rfl
      clear hA
      go_wp2_with fail
      refine Calls.mono (takeBack_any lo g d now [] _ HE0.out.1) ?_
      rintro e w4 ⟨rfl, h4⟩
      have HE1 := hid (HE0.out.trans h4)
      clear h4
      go_wp2_with fail
      refine Calls.mono (sendWait_any lo g (backD d) now [] (by decide) p2 p1 _ HE1.out.1) ?_
      rintro e w5 ⟨rfl, h5⟩
      have HE5 := hid (HE1.out.trans h5)
      clear h5 HE1
      rw [List.nil_append] at HE5
      have hl5 := waitSegs_length (backD d)
      have hrm : (roomD (backD d) : Int) ≤ 24 := by unfold roomD; omega
      go_wp2_with fail
      refine Calls.mono (sendFin_any lo g (waitD (backD d)) now (waitSegs (backD d)) (by omega) (by show (backD d).wait.size ≤ _; omega) ⟨by show (0 : Int) ≤ (roomD (backD d) : Int); omega, by show (roomD (backD d) : Int) ≤ _; omega⟩ _ HE5.out.1) ?_
      rintro e w6 ⟨rfl, h6⟩
      have HE6 := hid (HE5.out.trans h6)
      clear h6 HE5
      have hst := sent_times (backD d)
      rw [← HQ.out.1, ← HQ.out.2] at HE6
      rw [← HQ.out.1] at hst
      have hlS : (sentSegs now d).length ≤ 26 := by rw [HQ.out.2, List.length_append]; have := finSegs_length (waitD (backD d)); omega
      obtain ⟨q1, q2, q3⟩ := hst
      have q1 := q1.trans P3.out
      have q2 := q2.trans P4.out
      have Q2 := hid q2
      have Q1 := hid q1
      clear q1 q2
      have HO : Hid (openD now d = (if (sentSegs now d).length = 0 then { sentD now d with owe := false } else { pauseD now (sentD now d) with owe := false })) := rfl
      have HS : Hid (openSegs now d = (if (sentSegs now d).length = 0 then (if d.owe = true then [oweSeg (sentD now d)] else []) else sentSegs now d)) := rfl
      obtain ⟨E, hE⟩ : ∃ E, sentD now d = E := ⟨_, rfl⟩
      obtain ⟨L, hL⟩ : ∃ L, sentSegs now d = L := ⟨_, rfl⟩
      rw [hE] at HE6 HO HS Q1 Q2 q3
      rw [hL] at HE6 HO HS hlS
      clear hE hL HQ
      obtain ⟨_, ao6, cap6, ov6, oc6, hb6, _, _⟩ := HE6.out.1
      have c14 := hb6.cell (j := 14) rfl
      have c10 := hb6.cell (j := 10) rfl
      have f10 := hb6.thaw 10
      clear hb6
      by_cases hz : L.length = 0
      rotate_left
      · have hzi : (0 : Int) < (L.length : Int) := by omega
        go_wp2_with fail
        refine Calls.mono (pause_any lo g E now L (by rw [Q1.out]; exact ht) hnow _ HE6.out.1) ?_
        rintro e w7 ⟨rfl, h7⟩
        have HE7 := hid (HE6.out.trans h7)
        clear h7 HE6 c14 c10 f10
        obtain ⟨_, ao7, cap7, ov7, oc7, hb7, _, _⟩ := HE7.out.1
        have c10 := hb7.cell (j := 10) rfl
        have f10 := hb7.thaw 10
        clear hb7
        go_wp2
        go_end0
        exact ⟨rfl, by rw [HO.out, HS.out, if_neg hz, if_neg hz]; exact HE7.out.owe false⟩
      obtain rfl : L = [] := List.length_eq_zero_iff.1 hz
      simp only [List.length_nil, if_true] at HO HS
      clear hz
      rw [Q2.out] at c10
      cases ho : d.owe with
      | false =>
        rw [ho] at c10 HS
        clear ho
        go_wp2
        go_end0
        exact ⟨rfl, by rw [HO.out, HS.out]; exact HE6.out.owe false⟩
      | true =>
        rw [ho] at c10 HS
        clear ho
        have hes : 0 ≤ E.sent ∧ E.sent ≤ 1048576 := by omega
        go_wp2_with fail
        refine Calls.mono (flight_any lo g E now [] hes _ HE6.out.1) ?_
        rintro e w2 ⟨rfl, hw2⟩
        rw [hw2]
        clear hw2 w2
        go_wp2_with fail
        refine Calls.mono (send_any lo g E now [] 2 (flightD E) ByteArray.empty (by decide) (by decide) _ HE6.out.1) ?_
        rintro e w7 ⟨rfl, h7⟩
        have HE7 := hid (HE6.out.trans h7)
        clear h7 HE6 c14 c10 f10
        obtain ⟨_, ao7, cap7, ov7, oc7, hb7, _, _⟩ := HE7.out.1
        have c10 := hb7.cell (j := 10) rfl
        have f10 := hb7.thaw 10
        clear hb7
        go_wp2
        go_end0
        exact ⟨rfl, by rw [HO.out, HS.out]; exact HE7.out.owe false⟩
end Go.Proofs.Ytcmcmhiodkjflaa
