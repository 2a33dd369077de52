/-
  The walk of impl.lateOk: what it answers.
-/
import Derived.Test.YtcmcmhiodkjflaaJoint1
import Derived.Test.YtcmcmhiodkjflaaJoint41
namespace Go.Proofs.Ytcmcmhiodkjflaa
open Go.RowKit

set_option maxRecDepth 1000000 in
set_option maxHeartbeats 2000000 in
theorem lateOk_any (l : List LateD) (ao : Option Addr) (cap : Nat) (s3 : l.length ≤ 1048576) (s4 : ∀ f ∈ l, f.text.size ≤ 1048576) (w : World) (ha : LatesAt w ao l) :
    Calls Try.prog 47 #[.slice ao l.length cap] w fun e w' => e = .returned (.bool (latesOk l && decide ((l.length : Int) ≤ 8))) ∧ Below w.heap.size w w' := by
  have HS4 := hid s4
  have HA := hid ha
  obtain ⟨R, hR⟩ : ∃ R, (latesOk l && decide ((l.length : Int) ≤ 8)) = R := ⟨_, rfl⟩
  have HQ := hid hR
  rw [hR]
  clear s4 ha hR
  go_enter Try.func47, Try.ntmps47
  go_wp2
  go_loopg [7] l.length (fun g i wr => ∃ (k : Nat), k + g = l.length ∧ i = .int .i64 k ∧ Hid (Below w.heap.size w wr) ∧ Hid (latesOk (l.take k) = true))
  case atStart => exact ⟨0, by omega, rfl, (show Below _ _ _ from Below.refl _ _), rfl⟩
  case round =>
    obtain ⟨k, hkg, rfl, BR, RT⟩ := hrel
    cases gk with
    | zero =>
      have hlt : ¬ (k : Int) < (l.length : Int) := by omega
      have HE : Hid (latesOk l = true) := by show _ = _; rw [← RT.out, List.take_of_length_le (by omega)]
      by_cases h8 : (l.length : Int) ≤ 8
      · have HR : Hid (R = true) := by show _ = _; rw [← HQ.out, HE.out, decide_eq_true h8]; rfl
        go_wp2
        go_ret
        exact ⟨by rw [HR.out]; rfl, BR.out⟩
      · have HR : Hid (R = false) := by show _ = _; rw [← HQ.out, HE.out, decide_eq_false h8]; rfl
        go_wp2
        go_ret
        exact ⟨by rw [HR.out]; rfl, BR.out⟩
    | succ g =>
      have hlt : k < l.length := by omega
      have hlt' : (k : Int) < (l.length : Int) := by omega
      have hne : l ≠ [] := by intro e; rw [e] at hlt; simp at hlt
      have hsz := HS4.out l[k] (List.getElem_mem hlt)
      obtain ⟨b, off, rfl, hc⟩ := HA.out.on BR.out hne
      obtain ⟨x0, x1⟩ := hc k hlt
      clear hc
      have HT := hid (List.take_succ_eq_append_getElem hlt)
      have hb1 := below_more (Below.refl wr.heap.size wr) (.cells #[.int .i64 l[k].num, .string l[k].text] 69)
      have hx : BlockIs (wr.alloc (.cells #[.int .i64 l[k].num, .string l[k].text] 69)) wr.heap.size 69 [.int .i64 l[k].num, .string l[k].text] := heap_alloc_new wr _
      obtain ⟨V, hV⟩ : ∃ V, wr.alloc (.cells #[.int .i64 l[k].num, .string l[k].text] 69) = V := ⟨_, rfl⟩
      rw [hV] at hb1 hx
      have BV := hid (below_via BR.out hb1)
      have y0 := hx.cell (j := 0) rfl
      have y1 := hx.cell (j := 1) rfl
      clear hx hb1
      have m0 := fun w => isNum_any l[k].num w
      cases h0 : within l[k].num 0 65535 with
      | false =>
        rw [h0] at m0
        have n0 := hid m0
        have HR : Hid (R = false) := by show _ = _; rw [← HQ.out, Bool.and_eq_false_iff]; left; rw [← Bool.not_eq_true]; intro h; have h9 := List.all_eq_true.1 h _ (List.getElem_mem hlt); simp [lateOk, h0] at h9
        clear m0 h0
        go_wp2_with (first | (go_at_call 45; with_reducible refine Calls.mono (n0.out _) ?_; rintro e w1 ⟨rfl, hw⟩; rw [hw]; clear hw w1) | fail)
        go_ret
        exact ⟨by rw [HR.out]; rfl, BV.out⟩
      | true =>
        rw [h0] at m0
        have n0 := hid m0
        by_cases z : l[k].text.size = 0
        · have hse : (l[k].text.toList == []) = true := by rw [beq_iff_eq, ByteArray.toList_eq]; exact List.eq_nil_of_length_eq_zero z
          have HR : Hid (R = false) := by show _ = _; rw [← HQ.out, Bool.and_eq_false_iff]; left; rw [← Bool.not_eq_true]; intro h; have h9 := List.all_eq_true.1 h _ (List.getElem_mem hlt); simp only [lateOk, within_iff, Bool.and_eq_true] at h9; omega
          clear m0 h0 z
          go_wp2_with (first | (go_at_call 45; with_reducible refine Calls.mono (n0.out _) ?_; rintro e w1 ⟨rfl, hw⟩; rw [hw]; clear hw w1) | fail)
          go_ret
          exact ⟨by rw [HR.out]; rfl, BV.out⟩
        · have hse : (l[k].text.toList == []) = false := by rw [beq_eq_false_iff_ne, ByteArray.toList_eq]; intro h; exact z (show l[k].text.data.toList.length = 0 by rw [h]; rfl)
          by_cases h8 : (l[k].text.size : Int) ≤ 8
          · have RT2 : Hid (latesOk (l.take (k + 1)) = true) := by show _ = _; rw [HT.out, latesOk, List.all_append, show (l.take k).all lateOk = true from RT.out]; simp only [List.all_cons, List.all_nil, lateOk, h0, Bool.true_and, Bool.and_true]; exact within_yes (by omega) h8
            clear m0 h0 z RT
            go_wp2_with (first | (go_at_call 45; with_reducible refine Calls.mono (n0.out _) ?_; rintro e w1 ⟨rfl, hw⟩; rw [hw]; clear hw w1) | fail)
            go_roundg g
            case measure => omega
            case rel => exact ⟨k + 1, by omega, by go_num, BV, RT2⟩
          · have HR : Hid (R = false) := by show _ = _; rw [← HQ.out, Bool.and_eq_false_iff]; left; rw [← Bool.not_eq_true]; intro h; have h9 := List.all_eq_true.1 h _ (List.getElem_mem hlt); simp only [lateOk, within_iff, Bool.and_eq_true] at h9; omega
            clear m0 h0 z
            go_wp2_with (first | (go_at_call 45; with_reducible refine Calls.mono (n0.out _) ?_; rintro e w1 ⟨rfl, hw⟩; rw [hw]; clear hw w1) | fail)
            go_ret
            exact ⟨by rw [HR.out]; rfl, BV.out⟩
end Go.Proofs.Ytcmcmhiodkjflaa
