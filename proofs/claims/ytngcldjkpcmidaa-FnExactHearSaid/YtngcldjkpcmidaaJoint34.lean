/-
  The walks of impl.(*endpoint).takeNothing, takeCall, takeAnswer, takeCallAgain.
  The walk of impl.Gap: how far a number is behind another one.
  The walks of impl.(*endpoint).flight, takeBack.
-/
import Derived.Test.YtngcldjkpcmidaaJoint33
import Derived.Test.YtngcldjkpcmidaaJoint32
import Derived.Test.YtngcldjkpcmidaaJoint1
namespace Go.Proofs.Ytngcldjkpcmidaa
open Go.RowKit

def callD (s : SegD) (d : StrD) : StrD := if synB s = true ∧ ackB s = false then { d with rcv := addNum s.num 1, st := 3 } else d
def answerD (s : SegD) (d : StrD) : StrD := if synB s = true ∧ ackB s = true ∧ s.ack = addNum d.iss 1 then openedD { d with rcv := addNum s.num 1, owe := true } else d
def againD (s : SegD) (d : StrD) : StrD := if synB s = true then { d with due := 0, times := 0 } else d
set_option maxRecDepth 1000000 in
set_option maxHeartbeats 4000000 in
theorem takeNothing_any (lo g : Nat) (d : StrD) (now : Int) (out : List SegD) (s : SegD) (w : World) (h : EpIs w lo g d now out) :
    Calls Try.prog 42 #[.pointer (some ⟨g, 0, none⟩), .agg #[.int .i64 s.num, .int .i64 s.ack, .int .i64 s.flags, .string s.body]] w fun e w' => e = .returned (.tuple #[]) ∧ EpTo lo g w w' d now out := by
  have HB := hid (h.to.on (below_more (Below.refl w.heap.size w) (.cells #[.int .i64 s.num, .int .i64 s.ack, .int .i64 s.flags, .string s.body] 34)))
  go_enter Try.func42, Try.ntmps42
  go_wp2
  go_end0
  exact ⟨rfl, by first | exact HB.out | exact h.to⟩

set_option maxRecDepth 1000000 in
set_option maxHeartbeats 4000000 in
theorem takeCall_any (lo g : Nat) (d : StrD) (now : Int) (out : List SegD) (s : SegD) (h1 : 0 ≤ s.flags) (h2 : s.flags ≤ 7) (w : World) (h : EpIs w lo g d now out) :
    Calls Try.prog 43 #[.pointer (some ⟨g, 0, none⟩), .agg #[.int .i64 s.num, .int .i64 s.ack, .int .i64 s.flags, .string s.body]] w fun e w' => e = .returned (.tuple #[]) ∧ EpTo lo g w w' (callD s d) now out := by
  have hb0 := below_more (Below.refl w.heap.size w) (.cells #[.int .i64 s.num, .int .i64 s.ack, .int .i64 s.flags, .string s.body] 34)
  have hx0 : BlockIs (w.alloc (.cells #[.int .i64 s.num, .int .i64 s.ack, .int .i64 s.flags, .string s.body] 34)) w.heap.size 34 [.int .i64 s.num, .int .i64 s.ack, .int .i64 s.flags, .string s.body] := heap_alloc_new w _
  have h0 := h.on hb0
  have H := hid h
  obtain ⟨W0, hW0⟩ : ∃ W0, w.alloc (.cells #[.int .i64 s.num, .int .i64 s.ack, .int .i64 s.flags, .string s.body] 34) = W0 := ⟨_, rfl⟩
  rw [hW0] at hb0 hx0 h0
  have B0 := hid hb0
  have X0 := hid hx0
  have H0 := hid h0
  have x0 := hx0.cell (j := 0) rfl
  have x1 := hx0.cell (j := 1) rfl
  have x2 := hx0.cell (j := 2) rfl
  have x3 := hx0.cell (j := 3) rfl
  clear hx0 hb0 h
  have LO := hid H.out.lo
  clear h0
  have C1 := hid (hasFlags_one s h1 h2 W0)
  cases hk : synB s with
  | false =>
    rw [hk] at C1
    have HR : Hid (callD s d = d) := by show _ = _; simp [callD, hk]
    clear hk
    go_enter Try.func43, Try.ntmps43
    go_wp2_with fail
    refine Calls.mono C1.out ?_
    rintro e w1 ⟨rfl, b1⟩
    have E1 := hid (H0.out.to.on b1)
    have X1 := hid (X0.out.on b1 X0.out.lt)
    have z10 := X1.out.cell (j := 0) rfl
    have z11 := X1.out.cell (j := 1) rfl
    have z12 := X1.out.cell (j := 2) rfl
    have z13 := X1.out.cell (j := 3) rfl
    clear b1
    have ET := hid (show EpTo lo g w w1 d now out from ⟨E1.out.1, (B0.out.mono LO.out).trans E1.out.2⟩)
    clear x0 x1 x2 x3
    go_wp2
    go_end0
    exact ⟨rfl, by rw [HR.out]; exact ET.out⟩
  | true =>
    rw [hk] at C1
    cases ha : ackB s with
    | true =>
      have HR : Hid (callD s d = d) := by show _ = _; simp [callD, hk, ha]
      clear hk
      have C2' := fun w => hasFlags_two s h1 h2 w
      rw [ha] at C2'
      have C2 := hid C2'
      clear ha C2'
      go_enter Try.func43, Try.ntmps43
      go_wp2_with fail
      refine Calls.mono C1.out ?_
      rintro e w1 ⟨rfl, b1⟩
      have E1 := hid (H0.out.to.on b1)
      have X1 := hid (X0.out.on b1 X0.out.lt)
      have z10 := X1.out.cell (j := 0) rfl
      have z11 := X1.out.cell (j := 1) rfl
      have z12 := X1.out.cell (j := 2) rfl
      have z13 := X1.out.cell (j := 3) rfl
      clear b1
      clear x0 x1 x2 x3 C1
      go_wp2_with fail
      refine Calls.mono (C2.out _) ?_
      rintro e w2 ⟨rfl, b2⟩
      have E2 := hid (E1.out.on b2)
      have X2 := hid (X1.out.on b2 X1.out.lt)
      have z20 := X2.out.cell (j := 0) rfl
      have z21 := X2.out.cell (j := 1) rfl
      have z22 := X2.out.cell (j := 2) rfl
      have z23 := X2.out.cell (j := 3) rfl
      clear b2
      have ET := hid (show EpTo lo g w w2 d now out from ⟨E2.out.1, (B0.out.mono LO.out).trans E2.out.2⟩)
      clear z10 z11 z12 z13 C2
      go_wp2
      go_end0
      exact ⟨rfl, by rw [HR.out]; exact ET.out⟩
    | false =>
      have HR : Hid (callD s d = { d with rcv := addNum s.num 1, st := 3 }) := by show _ = _; simp [callD, hk, ha]
      clear hk
      have C2' := fun w => hasFlags_two s h1 h2 w
      rw [ha] at C2'
      have C2 := hid C2'
      clear ha C2'
      go_enter Try.func43, Try.ntmps43
      go_wp2_with fail
      refine Calls.mono C1.out ?_
      rintro e w1 ⟨rfl, b1⟩
      have E1 := hid (H0.out.to.on b1)
      have X1 := hid (X0.out.on b1 X0.out.lt)
      have z10 := X1.out.cell (j := 0) rfl
      have z11 := X1.out.cell (j := 1) rfl
      have z12 := X1.out.cell (j := 2) rfl
      have z13 := X1.out.cell (j := 3) rfl
      clear b1
      clear x0 x1 x2 x3 C1
      go_wp2_with fail
      refine Calls.mono (C2.out _) ?_
      rintro e w2 ⟨rfl, b2⟩
      have E2 := hid (E1.out.on b2)
      have X2 := hid (X1.out.on b2 X1.out.lt)
      have z20 := X2.out.cell (j := 0) rfl
      have z21 := X2.out.cell (j := 1) rfl
      have z22 := X2.out.cell (j := 2) rfl
      have z23 := X2.out.cell (j := 3) rfl
      clear b2
      have ET := hid (show EpTo lo g w w2 d now out from ⟨E2.out.1, (B0.out.mono LO.out).trans E2.out.2⟩)
      clear z10 z11 z12 z13 C2
      obtain ⟨_, ao2, cap2, ov2, oc2, hb2, _, _⟩ := ET.out.1
      have c3 := hb2.cell (j := 3) rfl
      have f3 := hb2.thaw 3
      have c0 := hb2.cell (j := 0) rfl
      have f0 := hb2.thaw 0
      clear hb2
      go_wp2_with fail
      refine Calls.mono (implAddNum_any s.num 1 _) ?_
      rintro e w3 ⟨rfl, hw3⟩
      rw [hw3]
      clear hw3 w3
      go_wp2
      go_end0
      exact ⟨rfl, by rw [HR.out]; exact (ET.out.rcv _).st 3⟩

set_option maxRecDepth 1000000 in
set_option maxHeartbeats 4000000 in
theorem takeAnswer_any (lo g : Nat) (d : StrD) (now : Int) (out : List SegD) (s : SegD) (h1 : 0 ≤ s.flags) (h2 : s.flags ≤ 7) (w : World) (h : EpIs w lo g d now out) :
    Calls Try.prog 44 #[.pointer (some ⟨g, 0, none⟩), .agg #[.int .i64 s.num, .int .i64 s.ack, .int .i64 s.flags, .string s.body]] w fun e w' => e = .returned (.tuple #[]) ∧ EpTo lo g w w' (answerD s d) now out := by
  have hb0 := below_more (Below.refl w.heap.size w) (.cells #[.int .i64 s.num, .int .i64 s.ack, .int .i64 s.flags, .string s.body] 34)
  have hx0 : BlockIs (w.alloc (.cells #[.int .i64 s.num, .int .i64 s.ack, .int .i64 s.flags, .string s.body] 34)) w.heap.size 34 [.int .i64 s.num, .int .i64 s.ack, .int .i64 s.flags, .string s.body] := heap_alloc_new w _
  have h0 := h.on hb0
  have H := hid h
  obtain ⟨W0, hW0⟩ : ∃ W0, w.alloc (.cells #[.int .i64 s.num, .int .i64 s.ack, .int .i64 s.flags, .string s.body] 34) = W0 := ⟨_, rfl⟩
  rw [hW0] at hb0 hx0 h0
  have B0 := hid hb0
  have X0 := hid hx0
  have H0 := hid h0
  have x0 := hx0.cell (j := 0) rfl
  have x1 := hx0.cell (j := 1) rfl
  have x2 := hx0.cell (j := 2) rfl
  have x3 := hx0.cell (j := 3) rfl
  clear hx0 hb0 h
  have LO := hid H.out.lo
  clear h0
  have C1 := hid (hasFlags_one s h1 h2 W0)
  cases hk : synB s with
  | false =>
    rw [hk] at C1
    have HR : Hid (answerD s d = d) := by show _ = _; simp [answerD, hk]
    clear hk
    go_enter Try.func44, Try.ntmps44
    go_wp2_with fail
    refine Calls.mono C1.out ?_
    rintro e w1 ⟨rfl, b1⟩
    have E1 := hid (H0.out.to.on b1)
    have X1 := hid (X0.out.on b1 X0.out.lt)
    have z10 := X1.out.cell (j := 0) rfl
    have z11 := X1.out.cell (j := 1) rfl
    have z12 := X1.out.cell (j := 2) rfl
    have z13 := X1.out.cell (j := 3) rfl
    clear b1
    have ET := hid (show EpTo lo g w w1 d now out from ⟨E1.out.1, (B0.out.mono LO.out).trans E1.out.2⟩)
    clear x0 x1 x2 x3
    go_wp2
    go_end0
    exact ⟨rfl, by rw [HR.out]; exact ET.out⟩
  | true =>
    rw [hk] at C1
    cases ha : (ackB s && decide (s.ack = addNum d.iss 1)) with
    | false =>
      have HA := hid ha
      have HR : Hid (answerD s d = d) := by show _ = _; rw [answerD, if_neg]; rintro ⟨_, q1, q2⟩; rw [q1, decide_eq_true q2] at ha; cases ha
      clear ha hk
      go_enter Try.func44, Try.ntmps44
      go_wp2_with fail
      refine Calls.mono C1.out ?_
      rintro e w1 ⟨rfl, b1⟩
      have E1 := hid (H0.out.to.on b1)
      have X1 := hid (X0.out.on b1 X0.out.lt)
      have z10 := X1.out.cell (j := 0) rfl
      have z11 := X1.out.cell (j := 1) rfl
      have z12 := X1.out.cell (j := 2) rfl
      have z13 := X1.out.cell (j := 3) rfl
      clear b1
      clear x0 x1 x2 x3 C1
      have C2 := hid (isIssAcked_any lo g d now out s h1 h2 w1 E1.out.1)
      rw [HA.out] at C2
      go_wp2_with fail
      refine Calls.mono C2.out ?_
      rintro e w2 ⟨rfl, b2⟩
      have E2 := hid (E1.out.on b2)
      have X2 := hid (X1.out.on b2 X1.out.lt)
      have z20 := X2.out.cell (j := 0) rfl
      have z21 := X2.out.cell (j := 1) rfl
      have z22 := X2.out.cell (j := 2) rfl
      have z23 := X2.out.cell (j := 3) rfl
      clear b2
      have ET := hid (show EpTo lo g w w2 d now out from ⟨E2.out.1, (B0.out.mono LO.out).trans E2.out.2⟩)
      clear z10 z11 z12 z13 C2
      go_wp2
      go_end0
      exact ⟨rfl, by rw [HR.out]; exact ET.out⟩
    | true =>
      have HA := hid ha
      have HR : Hid (answerD s d = openedD { d with rcv := addNum s.num 1, owe := true }) := by show _ = _; rw [Bool.and_eq_true, decide_eq_true_eq] at ha; rw [answerD, if_pos ⟨hk, ha.1, ha.2⟩]
      clear ha hk
      go_enter Try.func44, Try.ntmps44
      go_wp2_with fail
      refine Calls.mono C1.out ?_
      rintro e w1 ⟨rfl, b1⟩
      have E1 := hid (H0.out.to.on b1)
      have X1 := hid (X0.out.on b1 X0.out.lt)
      have z10 := X1.out.cell (j := 0) rfl
      have z11 := X1.out.cell (j := 1) rfl
      have z12 := X1.out.cell (j := 2) rfl
      have z13 := X1.out.cell (j := 3) rfl
      clear b1
      clear x0 x1 x2 x3 C1
      have C2 := hid (isIssAcked_any lo g d now out s h1 h2 w1 E1.out.1)
      rw [HA.out] at C2
      go_wp2_with fail
      refine Calls.mono C2.out ?_
      rintro e w2 ⟨rfl, b2⟩
      have E2 := hid (E1.out.on b2)
      have X2 := hid (X1.out.on b2 X1.out.lt)
      have z20 := X2.out.cell (j := 0) rfl
      have z21 := X2.out.cell (j := 1) rfl
      have z22 := X2.out.cell (j := 2) rfl
      have z23 := X2.out.cell (j := 3) rfl
      clear b2
      have ET := hid (show EpTo lo g w w2 d now out from ⟨E2.out.1, (B0.out.mono LO.out).trans E2.out.2⟩)
      clear z10 z11 z12 z13 C2
      obtain ⟨_, ao2, cap2, ov2, oc2, hb2, _, _⟩ := ET.out.1
      have c3 := hb2.cell (j := 3) rfl
      have f3 := hb2.thaw 3
      have c10 := hb2.cell (j := 10) rfl
      have f10 := hb2.thaw 10
      clear hb2
      go_wp2_with fail
      refine Calls.mono (implAddNum_any s.num 1 _) ?_
      rintro e w3 ⟨rfl, hw3⟩
      rw [hw3]
      clear hw3 w3
      have EP := hid ((ET.out.rcv (addNum s.num 1)).owe true)
      go_wp2_with fail
      refine Calls.mono (opened_any lo g { d with rcv := addNum s.num 1, owe := true } now out _ EP.out.1) ?_
      rintro e w4 ⟨rfl, h4⟩
      have E4 := hid (EP.out.trans h4)
      clear h4 EP
      go_wp2
      go_end0
      exact ⟨rfl, by rw [HR.out]; exact E4.out⟩

set_option maxRecDepth 1000000 in
set_option maxHeartbeats 4000000 in
theorem takeCallAgain_any (lo g : Nat) (d : StrD) (now : Int) (out : List SegD) (s : SegD) (h1 : 0 ≤ s.flags) (h2 : s.flags ≤ 7) (w : World) (h : EpIs w lo g d now out) :
    Calls Try.prog 45 #[.pointer (some ⟨g, 0, none⟩), .agg #[.int .i64 s.num, .int .i64 s.ack, .int .i64 s.flags, .string s.body]] w fun e w' => e = .returned (.tuple #[]) ∧ EpTo lo g w w' (againD s d) now out := by
  have hb0 := below_more (Below.refl w.heap.size w) (.cells #[.int .i64 s.num, .int .i64 s.ack, .int .i64 s.flags, .string s.body] 34)
  have hx0 : BlockIs (w.alloc (.cells #[.int .i64 s.num, .int .i64 s.ack, .int .i64 s.flags, .string s.body] 34)) w.heap.size 34 [.int .i64 s.num, .int .i64 s.ack, .int .i64 s.flags, .string s.body] := heap_alloc_new w _
  have h0 := h.on hb0
  have H := hid h
  obtain ⟨W0, hW0⟩ : ∃ W0, w.alloc (.cells #[.int .i64 s.num, .int .i64 s.ack, .int .i64 s.flags, .string s.body] 34) = W0 := ⟨_, rfl⟩
  rw [hW0] at hb0 hx0 h0
  have B0 := hid hb0
  have X0 := hid hx0
  have H0 := hid h0
  have x0 := hx0.cell (j := 0) rfl
  have x1 := hx0.cell (j := 1) rfl
  have x2 := hx0.cell (j := 2) rfl
  have x3 := hx0.cell (j := 3) rfl
  clear hx0 hb0 h
  have LO := hid H.out.lo
  clear h0
  have C1 := hid (hasFlags_one s h1 h2 W0)
  cases hk : synB s with
  | false =>
    rw [hk] at C1
    have HR : Hid (againD s d = d) := by show _ = _; simp [againD, hk]
    clear hk
    go_enter Try.func45, Try.ntmps45
    go_wp2_with fail
    refine Calls.mono C1.out ?_
    rintro e w1 ⟨rfl, b1⟩
    have E1 := hid (H0.out.to.on b1)
    have X1 := hid (X0.out.on b1 X0.out.lt)
    have z10 := X1.out.cell (j := 0) rfl
    have z11 := X1.out.cell (j := 1) rfl
    have z12 := X1.out.cell (j := 2) rfl
    have z13 := X1.out.cell (j := 3) rfl
    clear b1
    have ET := hid (show EpTo lo g w w1 d now out from ⟨E1.out.1, (B0.out.mono LO.out).trans E1.out.2⟩)
    clear x0 x1 x2 x3
    go_wp2
    go_end0
    exact ⟨rfl, by rw [HR.out]; exact ET.out⟩
  | true =>
    rw [hk] at C1
    have HR : Hid (againD s d = { d with due := 0, times := 0 }) := by show _ = _; simp [againD, hk]
    clear hk
    go_enter Try.func45, Try.ntmps45
    go_wp2_with fail
    refine Calls.mono C1.out ?_
    rintro e w1 ⟨rfl, b1⟩
    have E1 := hid (H0.out.to.on b1)
    have X1 := hid (X0.out.on b1 X0.out.lt)
    have z10 := X1.out.cell (j := 0) rfl
    have z11 := X1.out.cell (j := 1) rfl
    have z12 := X1.out.cell (j := 2) rfl
    have z13 := X1.out.cell (j := 3) rfl
    clear b1
    have ET := hid (show EpTo lo g w w1 d now out from ⟨E1.out.1, (B0.out.mono LO.out).trans E1.out.2⟩)
    clear x0 x1 x2 x3
    obtain ⟨_, ao2, cap2, ov2, oc2, hb2, _, _⟩ := ET.out.1
    have c11 := hb2.cell (j := 11) rfl
    have f11 := hb2.thaw 11
    have c12 := hb2.cell (j := 12) rfl
    have f12 := hb2.thaw 12
    clear hb2
    go_wp2
    go_end0
    exact ⟨rfl, by rw [HR.out]; exact (ET.out.due 0).times 0⟩
end Go.Proofs.Ytngcldjkpcmidaa

namespace Go.Proofs.Ytngcldjkpcmidaa
open Go.RowKit

set_option maxRecDepth 1000000 in
theorem gapTo_any (a b : Int) (w : World) :
    Calls Try.prog 67 #[.int .u16 a, .int .u16 b] w fun e w' => e = .returned (.int .u16 (gapNum a b)) ∧ w' = w := by
  obtain ⟨p, hp⟩ : ∃ p, IntKind.u16.wrap (-a) = p := ⟨_, rfl⟩
  have HR : Hid (addNum b p = gapNum a b) := by show _ = _; rw [IntKind.wrap_u16] at hp; unfold addNum gapNum; omega
  go_enter Try.func67, Try.ntmps67
  go_wp2_with fail
  refine (plus_any b p _).mono ?_
  rintro e w1 ⟨rfl, hw⟩
  rw [hw]
  clear hw w1 hp
  rw [HR.out]
  go_wp2
  go_ret
  exact ⟨rfl, rfl⟩

set_option maxRecDepth 1000000 in
theorem implGap_any (a b : Int) (w : World) :
    Calls Try.prog 61 #[.int .i64 a, .int .i64 b] w fun e w' => e = .returned (.int .i64 (gapNum a b)) ∧ w' = w := by
  obtain ⟨p, hp⟩ : ∃ p, IntKind.u16.wrap a = p := ⟨_, rfl⟩
  obtain ⟨q, hq⟩ : ∃ p, IntKind.u16.wrap b = p := ⟨_, rfl⟩
  have HR : Hid (gapNum p q = gapNum a b) := by show _ = _; rw [IntKind.wrap_u16] at hp hq; unfold gapNum; omega
  go_enter Try.func61, Try.ntmps61
  go_wp2_with fail
  refine (gapTo_any p q _).mono ?_
  rintro e w1 ⟨rfl, hw⟩
  rw [hw]
  clear hw w1 hp hq
  rw [HR.out]
  obtain ⟨h1, h2⟩ := gapNum_bd a b
  go_wp2
  go_ret
  exact ⟨rfl, rfl⟩
end Go.Proofs.Ytngcldjkpcmidaa

namespace Go.Proofs.Ytngcldjkpcmidaa
open Go.RowKit

set_option maxRecDepth 1000000 in
set_option maxHeartbeats 4000000 in
theorem flight_any (lo g : Nat) (d : StrD) (now : Int) (out : List SegD) (hs : 0 ≤ d.sent ∧ d.sent ≤ 1048576) (w : World) (h : EpIs w lo g d now out) :
    Calls Try.prog 62 #[.pointer (some ⟨g, 0, none⟩)] w fun e w' => e = .returned (.int .i64 (flightD d)) ∧ w' = w := by
  obtain ⟨s1, s2⟩ := hs
  obtain ⟨_, ao, cap, ov, oc, hb, _, _⟩ := h
  have c5 := hb.cell (j := 5) rfl
  have c6 := hb.cell (j := 6) rfl
  clear hb
  by_cases h2 : d.fin = 2
  · have h2b : (d.fin == 2) = true := by rw [beq_iff_eq]; exact h2
    have HR : Hid (flightD d = d.sent + 1) := by show _ = _; rw [flightD, if_pos h2]
    clear h2
    go_enter Try.func62, Try.ntmps62
    go_wp2
    go_ret
    exact ⟨by rw [HR.out]; rfl, rfl⟩
  · have h2b : (d.fin == 2) = false := by rw [beq_eq_false_iff_ne]; exact h2
    have HR : Hid (flightD d = d.sent) := by show _ = _; rw [flightD, if_neg h2]
    go_enter Try.func62, Try.ntmps62
    go_wp2
    go_ret
    exact ⟨by rw [HR.out]; rfl, rfl⟩
end Go.Proofs.Ytngcldjkpcmidaa
