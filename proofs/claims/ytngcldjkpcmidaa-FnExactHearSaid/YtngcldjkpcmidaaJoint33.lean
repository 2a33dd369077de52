/-
  The walks of impl.(*endpoint).open, isIssAcked, isOpenedBy.
-/
import Derived.Test.YtngcldjkpcmidaaJoint1
import Derived.Test.YtngcldjkpcmidaaJoint32
import Derived.Deep.QuietTactic
import Derived.BigQuiet
import Derived.Lib.QuietBelow
namespace Go.Proofs.Ytngcldjkpcmidaa
open Go.RowKit Go.Sort

set_option maxRecDepth 1000000 in
set_option maxHeartbeats 4000000 in
theorem opened_any (lo g : Nat) (d : StrD) (now : Int) (out : List SegD) (w : World) (h : EpIs w lo g d now out) :
    Calls Try.prog 47 #[.pointer (some ⟨g, 0, none⟩)] w fun e w' => e = .returned (.tuple #[]) ∧ EpTo lo g w w' (openedD d) now out := by
  have H := hid h.to
  obtain ⟨_, ao, cap, ov, oc, hb, _, _⟩ := h
  have c1 := hb.cell (j := 1) rfl
  have c2 := hb.cell (j := 2) rfl
  have c0 := hb.cell (j := 0) rfl
  have c11 := hb.cell (j := 11) rfl
  have c12 := hb.cell (j := 12) rfl
  have f2 := hb.thaw 2
  have f0 := hb.thaw 0
  have f11 := hb.thaw 11
  have f12 := hb.thaw 12
  clear hb
  go_enter Try.func47, Try.ntmps47
  go_wp2_with fail
  refine Calls.mono (implAddNum_any d.iss 1 w) ?_
  rintro e w1 ⟨rfl, hw1⟩
  rw [hw1]
  clear hw1 w1
  go_wp2
  go_end0
  exact ⟨rfl, (((H.out.una _).st 4).due 0).times 0⟩

set_option maxRecDepth 1000000 in
set_option maxHeartbeats 4000000 in
theorem isIssAcked_any (lo g : Nat) (d : StrD) (now : Int) (out : List SegD) (s : SegD) (h1 : 0 ≤ s.flags) (h2 : s.flags ≤ 7) (w : World) (h : EpIs w lo g d now out) :
    Calls Try.prog 56 #[.pointer (some ⟨g, 0, none⟩), .agg #[.int .i64 s.num, .int .i64 s.ack, .int .i64 s.flags, .string s.body]] w fun e w' => e = .returned (.bool (ackB s && decide (s.ack = addNum d.iss 1))) ∧ Below w.heap.size w w' := by
  have hb0 := below_more (Below.refl w.heap.size w) (.cells #[.int .i64 s.num, .int .i64 s.ack, .int .i64 s.flags, .string s.body] 34)
  have hx0 : BlockIs (w.alloc (.cells #[.int .i64 s.num, .int .i64 s.ack, .int .i64 s.flags, .string s.body] 34)) w.heap.size 34 [.int .i64 s.num, .int .i64 s.ack, .int .i64 s.flags, .string s.body] := heap_alloc_new w _
  have h0 := h.on hb0
  have H := hid h
  obtain ⟨W0, hW0⟩ : ∃ W0, w.alloc (.cells #[.int .i64 s.num, .int .i64 s.ack, .int .i64 s.flags, .string s.body] 34) = W0 := ⟨_, rfl⟩
  rw [hW0] at hb0 hx0 h0
  have B0 := hid hb0
  have X0 := hid hx0
  have H0 := hid h0
  have x0 := hx0.cell (j := 0) rfl
  have x1 := hx0.cell (j := 1) rfl
  have x2 := hx0.cell (j := 2) rfl
  have x3 := hx0.cell (j := 3) rfl
  clear hx0 hb0 h
  obtain ⟨_, ao, cap, ov, oc, hb, _, _⟩ := h0
  have c1 := hb.cell (j := 1) rfl
  clear hb
  have y0 := cell_regrown x0
  have y1 := cell_regrown x1
  have y2 := cell_regrown x2
  have y3 := cell_regrown x3
  have k1 := cell_regrown c1
  clear x0 x1 x2 x3 c1
  have CF' := fun dd os => Calls.regrown_of (w := W0) (d := dd) (os := os) (hasFlags_two s h1 h2 _)
  have CA' := fun dd os => Calls.regrown_of (w := W0) (d := dd) (os := os) ((implAddNum_any d.iss 1 (grow (redrawn W0 dd) os)).mono (fun e w' h => ⟨h.1, by rw [h.2]; exact Below.refl _ _⟩))
  have CA := hid CA'
  clear CA'
  cases hk : ackB s with
  | false =>
    rw [hk] at CF'
    have CF := hid CF'
    clear CF' hk
    go_enter Try.func56, Try.ntmps56
    go_wp2
    refine wp_region_quiet_below (by kernel_rfl) (by kernel_rfl) ?_
    repeat (go_big_quiet_step (first | (go_at_call 54; exact CF.out _ _) | fail))
    refine wpQuiet_nil ?_
    intro _ hw'
    obtain ⟨⟨dq, osq⟩, hw''⟩ := hw'
    subst hw''
    have b1 := below_regrown W0 dq osq
    generalize grow (redrawn W0 dq) osq = w1 at b1 ⊢
    have B1 := hid (below_via B0.out b1)
    clear b1 y0 y1 y2 y3 k1 CF CA
    go_wp2
    go_ret
    exact ⟨rfl, B1.out⟩
  | true =>
    rw [hk] at CF'
    have CF := hid CF'
    clear CF' hk
    obtain ⟨nA, hnA⟩ : ∃ z, addNum d.iss 1 = z := ⟨_, rfl⟩
    rw [hnA] at CA ⊢
    have HR : Hid ((true && decide (s.ack = nA)) = (s.ack == nA)) := by show _ = _; rw [Bool.true_and, Bool.eq_iff_iff, decide_eq_true_eq, beq_iff_eq]
    go_enter Try.func56, Try.ntmps56
    go_wp2
    refine wp_region_quiet_below (by kernel_rfl) (by kernel_rfl) ?_
    repeat (go_big_quiet_step (first | (go_at_call 54; exact CF.out _ _) | (go_at_call 55; exact CA.out _ _) | fail))
    refine wpQuiet_nil ?_
    intro _ hw'
    obtain ⟨⟨dq, osq⟩, hw''⟩ := hw'
    subst hw''
    have b1 := below_regrown W0 dq osq
    generalize grow (redrawn W0 dq) osq = w1 at b1 ⊢
    have B1 := hid (below_via B0.out b1)
    clear b1 y0 y1 y2 y3 k1 CF CA
    go_wp2
    go_ret
    exact ⟨by rw [HR.out]; rfl, B1.out⟩

set_option maxRecDepth 1000000 in
set_option maxHeartbeats 4000000 in
theorem isOpenedBy_any (lo g : Nat) (d : StrD) (now : Int) (out : List SegD) (s : SegD) (h1 : 0 ≤ s.flags) (h2 : s.flags ≤ 7) (w : World) (h : EpIs w lo g d now out) :
    Calls Try.prog 46 #[.pointer (some ⟨g, 0, none⟩), .agg #[.int .i64 s.num, .int .i64 s.ack, .int .i64 s.flags, .string s.body]] w fun e w' => e = .returned (.bool (!synB s && (ackB s && decide (s.ack = addNum d.iss 1)))) ∧ Below w.heap.size w w' := by
  have hb0 := below_more (Below.refl w.heap.size w) (.cells #[.int .i64 s.num, .int .i64 s.ack, .int .i64 s.flags, .string s.body] 34)
  have hx0 : BlockIs (w.alloc (.cells #[.int .i64 s.num, .int .i64 s.ack, .int .i64 s.flags, .string s.body] 34)) w.heap.size 34 [.int .i64 s.num, .int .i64 s.ack, .int .i64 s.flags, .string s.body] := heap_alloc_new w _
  have h0 := h.on hb0
  have H := hid h
  obtain ⟨W0, hW0⟩ : ∃ W0, w.alloc (.cells #[.int .i64 s.num, .int .i64 s.ack, .int .i64 s.flags, .string s.body] 34) = W0 := ⟨_, rfl⟩
  rw [hW0] at hb0 hx0 h0
  have B0 := hid hb0
  have X0 := hid hx0
  have H0 := hid h0
  have x0 := hx0.cell (j := 0) rfl
  have x1 := hx0.cell (j := 1) rfl
  have x2 := hx0.cell (j := 2) rfl
  have x3 := hx0.cell (j := 3) rfl
  clear hx0 hb0 h
  clear h0
  have CF := hid (hasFlags_one s h1 h2 W0)
  cases hk : synB s with
  | true =>
    rw [hk] at CF
    clear hk
    go_enter Try.func46, Try.ntmps46
    go_wp2_with fail
    refine Calls.mono CF.out ?_
    rintro e w1 ⟨rfl, b1⟩
    have B1 := hid (below_via B0.out b1)
    clear b1
    go_wp2
    go_ret
    exact ⟨rfl, B1.out⟩
  | false =>
    rw [hk] at CF
    clear hk
    obtain ⟨A, hA⟩ : ∃ A, (ackB s && decide (s.ack = addNum d.iss 1)) = A := ⟨_, rfl⟩
    have HA := hid hA
    rw [hA]
    clear hA
    go_enter Try.func46, Try.ntmps46
    go_wp2_with fail
    refine Calls.mono CF.out ?_
    rintro e w1 ⟨rfl, b1⟩
    have B1 := hid (below_via B0.out b1)
    have X1 := X0.out.on b1 X0.out.lt
    have z0 := X1.cell (j := 0) rfl
    have z1 := X1.cell (j := 1) rfl
    have z2 := X1.cell (j := 2) rfl
    have z3 := X1.cell (j := 3) rfl
    have CI := hid (isIssAcked_any lo g d now out s h1 h2 w1 (H0.out.on b1))
    clear b1 X1 x0 x1 x2 x3
    rw [HA.out] at CI
    go_wp2_with (first | (go_at_call 56; refine Calls.mono CI.out ?_; rintro e w2 ⟨rfl, b2⟩; have B2 := hid (below_via B1.out b2); clear b2) | fail)
    go_ret
    exact ⟨rfl, B2.out⟩
end Go.Proofs.Ytngcldjkpcmidaa
