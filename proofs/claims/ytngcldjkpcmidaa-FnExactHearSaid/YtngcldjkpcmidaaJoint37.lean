/-
  The walk of impl.(*endpoint).hear: a state's way to take a segment.
  The walk of impl.lateOk: what it answers.
-/
import Derived.Test.YtngcldjkpcmidaaJoint34
import Derived.Test.YtngcldjkpcmidaaJoint36
import Derived.Test.YtngcldjkpcmidaaJoint1
import Derived.Test.YtngcldjkpcmidaaJoint31
namespace Go.Proofs.Ytngcldjkpcmidaa
open Go.RowKit

theorem hear0_three {s : SegD} {d : StrD} (h : d.st = 3) (hq : (!synB s && (ackB s && decide (s.ack = addNum d.iss 1))) = false) : hear0 s d = againD s d := by
  rw [hear0, if_neg (by rw [h]; decide), if_neg (by rw [h]; decide), if_pos h, againD]
  cases hsy : synB s with
  | true => rfl
  | false =>
    rw [hsy] at hq
    have hn : ¬ (ackB s = true ∧ s.ack = addNum d.iss 1) := by
      rintro ⟨q1, q2⟩
      rw [q1, decide_eq_true q2] at hq
      cases hq
    simp [hn]
theorem hear0_opened {s : SegD} {d : StrD} (h : d.st = 3) (hq : (!synB s && (ackB s && decide (s.ack = addNum d.iss 1))) = true) : hear0 s d = heardD s (openedD d) := by
  simp only [Bool.and_eq_true, Bool.not_eq_true', decide_eq_true_eq] at hq
  rw [hear0, if_neg (by rw [h]; decide), if_neg (by rw [h]; decide), if_pos h, hq.1, if_neg (by decide), if_pos hq.2]
set_option maxRecDepth 1000000 in
set_option maxHeartbeats 4000000 in
theorem openedH_any (lo g : Nat) (d : StrD) (now : Int) (out : List SegD) (w : World) (h : EpIs w lo g d now out) :
    Calls Try.prog 47 #[.pointer (some ⟨g, 0, none⟩)] w fun e w' => e = .returned (.tuple #[]) ∧ HrTo lo g w w' (openedD d) now out := by
  have H := hid h.hr
  obtain ⟨_, ao, cap, ov, oc, hb, _, _⟩ := h
  have c1 := hb.cell (j := 1) rfl
  have c2 := hb.cell (j := 2) rfl
  have c0 := hb.cell (j := 0) rfl
  have c11 := hb.cell (j := 11) rfl
  have c12 := hb.cell (j := 12) rfl
  have f2 := hb.thaw 2
  have f0 := hb.thaw 0
  have f11 := hb.thaw 11
  have f12 := hb.thaw 12
  clear hb
  go_enter Try.func47, Try.ntmps47
  go_wp2_with fail
  refine Calls.mono (implAddNum_any d.iss 1 w) ?_
  rintro e w1 ⟨rfl, hw1⟩
  rw [hw1]
  clear hw1 w1
  go_wp2
  go_end0
  exact ⟨rfl, (((H.out.una _).st 4).due 0).times 0⟩

set_option maxRecDepth 1000000 in
set_option maxHeartbeats 4000000 in
theorem hear_any (lo g : Nat) (d : StrD) (now : Int) (out : List SegD) (s : SegD) (h1 : 0 ≤ s.flags) (h2 : s.flags ≤ 7) (hsz : s.body.size ≤ 8) (hR : StrR d) (CB : BodyDoes lo g now out s d) (w : World) (h : EpIs w lo g d now out) :
    Calls Try.prog 28 #[.pointer (some ⟨g, 0, none⟩), .agg #[.int .i64 s.num, .int .i64 s.ack, .int .i64 s.flags, .string s.body]] w fun e w' => e = .returned (.tuple #[]) ∧ EpTo lo g w w' (hear0 s d) now out := by
  have hb0 := below_more (Below.refl w.heap.size w) (.cells #[.int .i64 s.num, .int .i64 s.ack, .int .i64 s.flags, .string s.body] 34)
  have hx0 : BlockIs (w.alloc (.cells #[.int .i64 s.num, .int .i64 s.ack, .int .i64 s.flags, .string s.body] 34)) w.heap.size 34 [.int .i64 s.num, .int .i64 s.ack, .int .i64 s.flags, .string s.body] := heap_alloc_new w _
  have h0 := h.on hb0
  have H := hid h
  obtain ⟨W0, hW0⟩ : ∃ W0, w.alloc (.cells #[.int .i64 s.num, .int .i64 s.ack, .int .i64 s.flags, .string s.body] 34) = W0 := ⟨_, rfl⟩
  rw [hW0] at hb0 hx0 h0
  have B0 := hid hb0
  have X0 := hid hx0
  have H0 := hid h0
  have x0 := hx0.cell (j := 0) rfl
  have x1 := hx0.cell (j := 1) rfl
  have x2 := hx0.cell (j := 2) rfl
  have x3 := hx0.cell (j := 3) rfl
  clear hx0 hb0 h
  have HH := hid (H.out.hr.on B0.out)
  have LO := hid H.out.lo
  have HCB := hid CB
  have hs := hR.sent
  have hst := hR.st
  have hw := hR.wait
  have hs24 : 0 ≤ d.sent ∧ d.sent ≤ 24 := by omega
  have hsw : d.sent ≤ d.wait.size := by omega
  clear CB hR hs
  have hmf : ∀ (fn : Fn) (first cap : Array Value) (w : World), (Instr.makeFunc fn first cap).run Try.prog w = .ok (.func fn first cap) w := fun _ _ _ _ => rfl
  obtain ⟨_, ao, cap, ov, oc, hb, _, _⟩ := h0
  have c0 := hb.cell (j := 0) rfl
  clear hb
  obtain ⟨st, hs⟩ : ∃ st, d.st = st := ⟨_, rfl⟩
  have HS := hid hs
  rw [hs] at c0 hst
  clear hs
  obtain rfl | rfl | rfl | rfl | rfl : st = 0 ∨ st = 1 ∨ st = 2 ∨ st = 3 ∨ st = 4 := by omega
  · have HD : Hid (hear0 s d = d) := by show _ = _; simp [hear0, HS.out]
    clear hst
    go_enter Try.func28, Try.ntmps28
    go_wp2_with fail
    refine Calls.mono (takeNothing_any lo g d now out s W0 H0.out) ?_
    rintro e w1 ⟨rfl, h1⟩
    have E1 := hid (show EpTo lo g w w1 (d) now out from HH.out.1.trans h1)
    clear h1
    go_wp2
    go_end0
    exact ⟨rfl, by rw [HD.out]; exact E1.out⟩
  · have HD : Hid (hear0 s d = callD s d) := by show _ = _; simp [hear0, HS.out, callD]
    clear hst
    go_enter Try.func28, Try.ntmps28
    go_wp2_with fail
    refine Calls.mono (takeCall_any lo g d now out s h1 h2 W0 H0.out) ?_
    rintro e w1 ⟨rfl, h1⟩
    have E1 := hid (show EpTo lo g w w1 (callD s d) now out from HH.out.1.trans h1)
    clear h1
    go_wp2
    go_end0
    exact ⟨rfl, by rw [HD.out]; exact E1.out⟩
  · have HD : Hid (hear0 s d = answerD s d) := by show _ = _; simp [hear0, HS.out, answerD]
    clear hst
    go_enter Try.func28, Try.ntmps28
    go_wp2_with fail
    refine Calls.mono (takeAnswer_any lo g d now out s h1 h2 W0 H0.out) ?_
    rintro e w1 ⟨rfl, h1⟩
    have E1 := hid (show EpTo lo g w w1 (answerD s d) now out from HH.out.1.trans h1)
    clear h1
    go_wp2
    go_end0
    exact ⟨rfl, by rw [HD.out]; exact E1.out⟩
  · clear hst
    have CI := hid (isOpenedBy_any lo g d now out s h1 h2 W0 H0.out)
    cases hq : (!synB s && (ackB s && decide (s.ack = addNum d.iss 1))) with
    | false =>
      rw [hq] at CI
      have HD : Hid (hear0 s d = againD s d) := hear0_three HS.out hq
      clear hq
      go_enter Try.func28, Try.ntmps28
      go_wp2_with fail
      refine Calls.mono CI.out ?_
      rintro e w1 ⟨rfl, b1⟩
      have E1 := hid (HH.out.on b1)
      have X1 := hid (X0.out.on b1 X0.out.lt)
      have z0 := X1.out.cell (j := 0) rfl
      have z1 := X1.out.cell (j := 1) rfl
      have z2 := X1.out.cell (j := 2) rfl
      have z3 := X1.out.cell (j := 3) rfl
      clear b1 x0 x1 x2 x3 CI
      go_wp2_with fail
      refine Calls.mono (takeCallAgain_any lo g d now out s h1 h2 _ E1.out.1.1) ?_
      rintro e w2 ⟨rfl, h3⟩
      have E2 := hid (E1.out.1.trans h3)
      clear h3
      go_wp2
      go_end0
      exact ⟨rfl, by rw [HD.out]; exact E2.out⟩
    | true =>
      rw [hq] at CI
      have HD : Hid (hear0 s d = heardD s (openedD d)) := hear0_opened HS.out hq
      clear hq
      go_enter Try.func28, Try.ntmps28
      go_wp2_with fail
      refine Calls.mono CI.out ?_
      rintro e w1 ⟨rfl, b1⟩
      have E1 := hid (HH.out.on b1)
      have X1 := hid (X0.out.on b1 X0.out.lt)
      have z0 := X1.out.cell (j := 0) rfl
      have z1 := X1.out.cell (j := 1) rfl
      have z2 := X1.out.cell (j := 2) rfl
      have z3 := X1.out.cell (j := 3) rfl
      clear b1 x0 x1 x2 x3 CI
      go_wp2_with fail
      refine Calls.mono (openedH_any lo g d now out _ E1.out.1.1) ?_
      rintro e w2 ⟨rfl, h3⟩
      have E2 := hid (E1.out.trans h3)
      have X2 := h3.2 _ _ _ X1.out (by decide) (by decide)
      have y0 := X2.cell (j := 0) rfl
      have y1 := X2.cell (j := 1) rfl
      have y2 := X2.cell (j := 2) rfl
      have y3 := X2.cell (j := 3) rfl
      clear h3 z0 z1 z2 z3 X2
      go_wp2_with fail
      refine Calls.mono (takeOpen_any lo g (openedD d) now out s h1 h2 hsz hs24 hsw hw HCB.out _ E2.out.1.1) ?_
      rintro e w3 ⟨rfl, h4⟩
      have E3 := hid (E2.out.1.trans h4.1)
      clear h4
      go_wp2
      go_end0
      exact ⟨rfl, by rw [HD.out]; exact E3.out⟩
  · have HD : Hid (hear0 s d = heardD s d) := by show _ = _; simp [hear0, HS.out]
    clear hst
    go_enter Try.func28, Try.ntmps28
    go_wp2_with fail
    refine Calls.mono (takeOpen_any lo g d now out s h1 h2 hsz hs24 hsw hw HCB.out W0 H0.out) ?_
    rintro e w1 ⟨rfl, h1⟩
    have E1 := hid (show EpTo lo g w w1 (heardD s d) now out from HH.out.1.trans h1.1)
    clear h1
    go_wp2
    go_end0
    exact ⟨rfl, by rw [HD.out]; exact E1.out⟩
end Go.Proofs.Ytngcldjkpcmidaa

namespace Go.Proofs.Ytngcldjkpcmidaa
open Go.RowKit

set_option maxRecDepth 1000000 in
set_option maxHeartbeats 2000000 in
theorem lateOk_any (l : List LateD) (ao : Option Addr) (cap : Nat) (s3 : l.length ≤ 1048576) (s4 : ∀ f ∈ l, f.text.size ≤ 1048576) (w : World) (ha : LatesAt w ao l) :
    Calls Try.prog 40 #[.slice ao l.length cap] w fun e w' => e = .returned (.bool (latesOk l && decide ((l.length : Int) ≤ 8))) ∧ Below w.heap.size w w' := by
  have HS4 := hid s4
  have HA := hid ha
  obtain ⟨R, hR⟩ : ∃ R, (latesOk l && decide ((l.length : Int) ≤ 8)) = R := ⟨_, rfl⟩
  have HQ := hid hR
  rw [hR]
  clear s4 ha hR
  go_enter Try.func40, Try.ntmps40
  go_wp2
  go_loopg [7] l.length (fun g i wr => ∃ (k : Nat), k + g = l.length ∧ i = .int .i64 k ∧ Hid (Below w.heap.size w wr) ∧ Hid (latesOk (l.take k) = true))
  case atStart => exact ⟨0, by omega, rfl, (show Below _ _ _ from Below.refl _ _), rfl⟩
  case round =>
    obtain ⟨k, hkg, rfl, BR, RT⟩ := hrel
    cases gk with
    | zero =>
      have hlt : ¬ (k : Int) < (l.length : Int) := by omega
      have HE : Hid (latesOk l = true) := by show _ = _; rw [← RT.out, List.take_of_length_le (by omega)]
      by_cases h8 : (l.length : Int) ≤ 8
      · have HR : Hid (R = true) := by show _ = _; rw [← HQ.out, HE.out, decide_eq_true h8]; rfl
        go_wp2
        go_ret
        exact ⟨by rw [HR.out]; rfl, BR.out⟩
      · have HR : Hid (R = false) := by show _ = _; rw [← HQ.out, HE.out, decide_eq_false h8]; rfl
        go_wp2
        go_ret
        exact ⟨by rw [HR.out]; rfl, BR.out⟩
    | succ g =>
      have hlt : k < l.length := by omega
      have hlt' : (k : Int) < (l.length : Int) := by omega
      have hne : l ≠ [] := by intro e; rw [e] at hlt; simp at hlt
      have hsz := HS4.out l[k] (List.getElem_mem hlt)
      obtain ⟨b, off, rfl, hc⟩ := HA.out.on BR.out hne
      obtain ⟨x0, x1⟩ := hc k hlt
      clear hc
      have HT := hid (List.take_succ_eq_append_getElem hlt)
      have hb1 := below_more (Below.refl wr.heap.size wr) (.cells #[.int .i64 l[k].num, .string l[k].text] 61)
      have hx : BlockIs (wr.alloc (.cells #[.int .i64 l[k].num, .string l[k].text] 61)) wr.heap.size 61 [.int .i64 l[k].num, .string l[k].text] := heap_alloc_new wr _
      obtain ⟨V, hV⟩ : ∃ V, wr.alloc (.cells #[.int .i64 l[k].num, .string l[k].text] 61) = V := ⟨_, rfl⟩
      rw [hV] at hb1 hx
      have BV := hid (below_via BR.out hb1)
      have y0 := hx.cell (j := 0) rfl
      have y1 := hx.cell (j := 1) rfl
      clear hx hb1
      have m0 := fun w => isNum_any l[k].num w
      cases h0 : within l[k].num 0 65535 with
      | false =>
        rw [h0] at m0
        have n0 := hid m0
        have HR : Hid (R = false) := by show _ = _; rw [← HQ.out, Bool.and_eq_false_iff]; left; rw [← Bool.not_eq_true]; intro h; have h9 := List.all_eq_true.1 h _ (List.getElem_mem hlt); simp [lateOk, h0] at h9
        clear m0 h0
        go_wp2_with (first | (go_at_call 38; with_reducible refine Calls.mono (n0.out _) ?_; rintro e w1 ⟨rfl, hw⟩; rw [hw]; clear hw w1) | fail)
        go_ret
        exact ⟨by rw [HR.out]; rfl, BV.out⟩
      | true =>
        rw [h0] at m0
        have n0 := hid m0
        by_cases z : l[k].text.size = 0
        · have hse : (l[k].text.toList == []) = true := by rw [beq_iff_eq, ByteArray.toList_eq]; exact List.eq_nil_of_length_eq_zero z
          have HR : Hid (R = false) := by show _ = _; rw [← HQ.out, Bool.and_eq_false_iff]; left; rw [← Bool.not_eq_true]; intro h; have h9 := List.all_eq_true.1 h _ (List.getElem_mem hlt); simp only [lateOk, within_iff, Bool.and_eq_true] at h9; omega
          clear m0 h0 z
          go_wp2_with (first | (go_at_call 38; with_reducible refine Calls.mono (n0.out _) ?_; rintro e w1 ⟨rfl, hw⟩; rw [hw]; clear hw w1) | fail)
          go_ret
          exact ⟨by rw [HR.out]; rfl, BV.out⟩
        · have hse : (l[k].text.toList == []) = false := by rw [beq_eq_false_iff_ne, ByteArray.toList_eq]; intro h; exact z (show l[k].text.data.toList.length = 0 by rw [h]; rfl)
          by_cases h8 : (l[k].text.size : Int) ≤ 8
          · have RT2 : Hid (latesOk (l.take (k + 1)) = true) := by show _ = _; rw [HT.out, latesOk, List.all_append, show (l.take k).all lateOk = true from RT.out]; simp only [List.all_cons, List.all_nil, lateOk, h0, Bool.true_and, Bool.and_true]; exact within_yes (by omega) h8
            clear m0 h0 z RT
            go_wp2_with (first | (go_at_call 38; with_reducible refine Calls.mono (n0.out _) ?_; rintro e w1 ⟨rfl, hw⟩; rw [hw]; clear hw w1) | fail)
            go_roundg g
            case measure => omega
            case rel => exact ⟨k + 1, by omega, by go_num, BV, RT2⟩
          · have HR : Hid (R = false) := by show _ = _; rw [← HQ.out, Bool.and_eq_false_iff]; left; rw [← Bool.not_eq_true]; intro h; have h9 := List.all_eq_true.1 h _ (List.getElem_mem hlt); simp only [lateOk, within_iff, Bool.and_eq_true] at h9; omega
            clear m0 h0 z
            go_wp2_with (first | (go_at_call 38; with_reducible refine Calls.mono (n0.out _) ?_; rintro e w1 ⟨rfl, hw⟩; rw [hw]; clear hw w1) | fail)
            go_ret
            exact ⟨by rw [HR.out]; rfl, BV.out⟩
end Go.Proofs.Ytngcldjkpcmidaa
