/-
  The walk of impl.endpointOf: an endpoint over a copy.
  The walk of impl.sendingOk: what it answers.
-/
import Derived.Test.YtngcldjkpcmidaaJoint1
import Derived.Test.YtngcldjkpcmidaaJoint39
namespace Go.Proofs.Ytngcldjkpcmidaa
open Go.RowKit

set_option maxRecDepth 1000000 in
set_option maxHeartbeats 2000000 in
theorem endpointOf_any (d : StrD) (ao : Option Addr) (cap : Nat) (hs : d.Small) (now : Int) (w : World) (ha : LatesAt w ao d.late) :
    Calls Try.prog 27 #[.agg #[.int .i64 d.st, .int .i64 d.iss, .int .i64 d.una, .int .i64 d.rcv, .string d.wait, .int .i64 d.sent, .int .i64 d.fin, .bool d.pf, .string d.inn, .slice ao d.late.length cap, .bool d.owe, .int .i64 d.due, .int .i64 d.times], .int .i64 now] w fun e w' => ∃ g, e = .returned (.pointer (some ⟨g, 0, none⟩)) ∧ EpIs w' w.heap.size g d now [] ∧ Below w.heap.size w w' := by
  have hb0 := below_more (Below.refl w.heap.size w) (.cells #[.int .i64 d.st, .int .i64 d.iss, .int .i64 d.una, .int .i64 d.rcv, .string d.wait, .int .i64 d.sent, .int .i64 d.fin, .bool d.pf, .string d.inn, .slice ao d.late.length cap, .bool d.owe, .int .i64 d.due, .int .i64 d.times] 31)
  have hx0 : BlockIs (w.alloc (.cells #[.int .i64 d.st, .int .i64 d.iss, .int .i64 d.una, .int .i64 d.rcv, .string d.wait, .int .i64 d.sent, .int .i64 d.fin, .bool d.pf, .string d.inn, .slice ao d.late.length cap, .bool d.owe, .int .i64 d.due, .int .i64 d.times] 31)) w.heap.size 31 [.int .i64 d.st, .int .i64 d.iss, .int .i64 d.una, .int .i64 d.rcv, .string d.wait, .int .i64 d.sent, .int .i64 d.fin, .bool d.pf, .string d.inn, .slice ao d.late.length cap, .bool d.owe, .int .i64 d.due, .int .i64 d.times] := heap_alloc_new w _
  obtain ⟨W0, hW0⟩ : ∃ W0, w.alloc (.cells #[.int .i64 d.st, .int .i64 d.iss, .int .i64 d.una, .int .i64 d.rcv, .string d.wait, .int .i64 d.sent, .int .i64 d.fin, .bool d.pf, .string d.inn, .slice ao d.late.length cap, .bool d.owe, .int .i64 d.due, .int .i64 d.times] 31) = W0 := ⟨_, rfl⟩
  rw [hW0] at hb0 hx0
  have C := hid (copiedStream_any d ao cap hs W0 (ha.on hb0))
  unfold CopyDid at C
  have X0 := hid hx0
  have B0 := hid hb0
  clear hb0 hx0 ha hs
  go_enter Try.func27, Try.ntmps27
  go_wp2_with (first | (refine wpList_load_str X0.out rfl rfl _ rfl rfl ?_) | fail)
  refine Calls.mono C.out ?_
  rintro e w1 ⟨va, vc, rfl, hr1, b1⟩
  have B1 := hid (below_via B0.out b1)
  have R1 := hid (hr1.down B0.out.size)
  clear hr1 b1 C X0 B0
  have hr2 := segR_nil w1 w.heap.size B1.out.size
  have hb2 := below_more (Below.refl w1.heap.size w1) (.cells #[] 34)
  obtain ⟨W2, hW2⟩ : ∃ W2, w1.alloc (.cells #[] 34) = W2 := ⟨_, rfl⟩
  rw [hW2] at hr2 hb2
  have hb3 := below_more (Below.refl W2.heap.size W2) (.cells #[.int .i64 d.st, .int .i64 d.iss, .int .i64 d.una, .int .i64 d.rcv, .string d.wait, .int .i64 d.sent, .int .i64 d.fin, .bool d.pf, .string d.inn, .slice va d.late.length vc, .bool d.owe, .int .i64 d.due, .int .i64 d.times, .int .i64 now, .slice (some ⟨w1.heap.size, 0, none⟩) 0 0] 54)
  have hx3 : BlockIs (W2.alloc (.cells #[.int .i64 d.st, .int .i64 d.iss, .int .i64 d.una, .int .i64 d.rcv, .string d.wait, .int .i64 d.sent, .int .i64 d.fin, .bool d.pf, .string d.inn, .slice va d.late.length vc, .bool d.owe, .int .i64 d.due, .int .i64 d.times, .int .i64 now, .slice (some ⟨w1.heap.size, 0, none⟩) 0 0] 54)) W2.heap.size 54 [.int .i64 d.st, .int .i64 d.iss, .int .i64 d.una, .int .i64 d.rcv, .string d.wait, .int .i64 d.sent, .int .i64 d.fin, .bool d.pf, .string d.inn, .slice va d.late.length vc, .bool d.owe, .int .i64 d.due, .int .i64 d.times, .int .i64 now, .slice (some ⟨w1.heap.size, 0, none⟩) 0 0] := heap_alloc_new W2 _
  have HE := hid (show EpIs (W2.alloc (.cells #[.int .i64 d.st, .int .i64 d.iss, .int .i64 d.una, .int .i64 d.rcv, .string d.wait, .int .i64 d.sent, .int .i64 d.fin, .bool d.pf, .string d.inn, .slice va d.late.length vc, .bool d.owe, .int .i64 d.due, .int .i64 d.times, .int .i64 now, .slice (some ⟨w1.heap.size, 0, none⟩) 0 0] 54)) w.heap.size W2.heap.size d now [] from ⟨Nat.le_trans B1.out.size hb2.size, va, vc, _, _, hx3, (R1.out.on hb2).on hb3, segR_below hr2 hb3⟩)
  have HB := hid (below_via (below_via B1.out hb2) hb3)
  clear hr2 hb2 hb3 hx3 B1 R1
  go_wp2
  go_ret
  exact ⟨_, rfl, HE.out, HB.out⟩
end Go.Proofs.Ytngcldjkpcmidaa

namespace Go.Proofs.Ytngcldjkpcmidaa
open Go.RowKit

set_option maxRecDepth 1000000 in
set_option maxHeartbeats 2000000 in
theorem sendingOk_any (d : StrD) (ao : Option Addr) (cap : Nat) (s1 : d.wait.size ≤ 1048576) (w : World) :
    Calls Try.prog 39 #[.agg #[.int .i64 d.st, .int .i64 d.iss, .int .i64 d.una, .int .i64 d.rcv, .string d.wait, .int .i64 d.sent, .int .i64 d.fin, .bool d.pf, .string d.inn, .slice ao d.late.length cap, .bool d.owe, .int .i64 d.due, .int .i64 d.times]] w fun e w' => e = .returned (.bool (sendOk d)) ∧ Below w.heap.size w w' := by
  have HB0 := below_more (Below.refl w.heap.size w) (.cells #[.int .i64 d.st, .int .i64 d.iss, .int .i64 d.una, .int .i64 d.rcv, .string d.wait, .int .i64 d.sent, .int .i64 d.fin, .bool d.pf, .string d.inn, .slice ao d.late.length cap, .bool d.owe, .int .i64 d.due, .int .i64 d.times] 31)
  have hx : BlockIs (w.alloc (.cells #[.int .i64 d.st, .int .i64 d.iss, .int .i64 d.una, .int .i64 d.rcv, .string d.wait, .int .i64 d.sent, .int .i64 d.fin, .bool d.pf, .string d.inn, .slice ao d.late.length cap, .bool d.owe, .int .i64 d.due, .int .i64 d.times] 31)) w.heap.size 31 [.int .i64 d.st, .int .i64 d.iss, .int .i64 d.una, .int .i64 d.rcv, .string d.wait, .int .i64 d.sent, .int .i64 d.fin, .bool d.pf, .string d.inn, .slice ao d.late.length cap, .bool d.owe, .int .i64 d.due, .int .i64 d.times] := heap_alloc_new w _
  obtain ⟨W, hW⟩ : ∃ W, w.alloc (.cells #[.int .i64 d.st, .int .i64 d.iss, .int .i64 d.una, .int .i64 d.rcv, .string d.wait, .int .i64 d.sent, .int .i64 d.fin, .bool d.pf, .string d.inn, .slice ao d.late.length cap, .bool d.owe, .int .i64 d.due, .int .i64 d.times] 31) = W := ⟨_, rfl⟩
  rw [hW] at HB0 hx
  have HB := hid HB0
  have X0 := hid hx
  have c0 := hx.cell (j := 0) rfl
  have c1 := hx.cell (j := 1) rfl
  have c2 := hx.cell (j := 2) rfl
  have c3 := hx.cell (j := 3) rfl
  have c4 := hx.cell (j := 4) rfl
  have c5 := hx.cell (j := 5) rfl
  have c6 := hx.cell (j := 6) rfl
  have c7 := hx.cell (j := 7) rfl
  have c8 := hx.cell (j := 8) rfl
  have c9 := hx.cell (j := 9) rfl
  have c10 := hx.cell (j := 10) rfl
  have c11 := hx.cell (j := 11) rfl
  have c12 := hx.cell (j := 12) rfl
  clear hx HB0
  by_cases h1 : (200 : Int) < (d.wait.size : Int)
  · skip
    have HR : Hid (sendOk d = false) := by show _ = _; rw [← Bool.not_eq_true]; intro h; simp only [sendOk, within_iff, Bool.and_eq_true, Bool.or_eq_true, Bool.not_eq_true', decide_eq_true_eq, decide_eq_false_iff_not] at h; omega
    go_enter Try.func39, Try.ntmps39
    go_wp2
    all_goals (go_ret; exact ⟨by rw [HR.out]; rfl, HB.out⟩)
  by_cases h2 : d.sent < 0
  · skip
    have HR : Hid (sendOk d = false) := by show _ = _; rw [← Bool.not_eq_true]; intro h; simp only [sendOk, within_iff, Bool.and_eq_true, Bool.or_eq_true, Bool.not_eq_true', decide_eq_true_eq, decide_eq_false_iff_not] at h; omega
    go_enter Try.func39, Try.ntmps39
    go_wp2
    all_goals (go_ret; exact ⟨by rw [HR.out]; rfl, HB.out⟩)
  by_cases h24 : (d.wait.size : Int) < 24
  · have hmn : min (d.wait.size : Int) 24 = (d.wait.size : Int) := by omega
    by_cases h3 : (d.wait.size : Int) < d.sent
    · skip
      have HR : Hid (sendOk d = false) := by show _ = _; rw [← Bool.not_eq_true]; intro h; simp only [sendOk, within_iff, Bool.and_eq_true, Bool.or_eq_true, Bool.not_eq_true', decide_eq_true_eq, decide_eq_false_iff_not] at h; omega
      clear hmn
      go_enter Try.func39, Try.ntmps39
      go_wp2
      all_goals (go_ret; exact ⟨by rw [HR.out]; rfl, HB.out⟩)
    by_cases f0 : d.fin = 0
    · have fb : (d.fin == 0) = true := by rw [beq_iff_eq]; exact f0
      have HR : Hid (sendOk d = true) := by show _ = _; simp only [sendOk, within_iff, Bool.and_eq_true, Bool.or_eq_true, Bool.not_eq_true', decide_eq_true_eq, decide_eq_false_iff_not]; omega
      clear f0 hmn
      go_enter Try.func39, Try.ntmps39
      go_wp2
      all_goals (go_ret; exact ⟨by rw [HR.out]; rfl, HB.out⟩)
    by_cases f1 : d.fin = 1
    · have fb : (d.fin == 1) = true := by rw [beq_iff_eq]; exact f1
      have HR : Hid (sendOk d = true) := by show _ = _; simp only [sendOk, within_iff, Bool.and_eq_true, Bool.or_eq_true, Bool.not_eq_true', decide_eq_true_eq, decide_eq_false_iff_not]; omega
      clear f1 hmn
      go_enter Try.func39, Try.ntmps39
      go_wp2
      all_goals (go_ret; exact ⟨by rw [HR.out]; rfl, HB.out⟩)
    have f0b : (d.fin == 0) = false := by rw [beq_eq_false_iff_ne]; exact f0
    have f1b : (d.fin == 1) = false := by rw [beq_eq_false_iff_ne]; exact f1
    by_cases f2 : d.fin = 2
    · have fb : (d.fin == 2) = true := by rw [beq_iff_eq]; exact f2
      by_cases q : d.sent = d.wait.size
      · have qb : (d.sent == (d.wait.size : Int)) = true := by rw [beq_iff_eq]; exact q
        have HR : Hid (sendOk d = true) := by show _ = _; simp only [sendOk, within_iff, Bool.and_eq_true, Bool.or_eq_true, Bool.not_eq_true', decide_eq_true_eq, decide_eq_false_iff_not]; omega
        clear f2 q hmn
        go_enter Try.func39, Try.ntmps39
        go_wp2
        all_goals (go_ret; exact ⟨by rw [HR.out]; rfl, HB.out⟩)
      · have qb : (d.sent == (d.wait.size : Int)) = false := by rw [beq_eq_false_iff_ne]; exact q
        have HR : Hid (sendOk d = false) := by show _ = _; rw [← Bool.not_eq_true]; intro h; simp only [sendOk, within_iff, Bool.and_eq_true, Bool.or_eq_true, Bool.not_eq_true', decide_eq_true_eq, decide_eq_false_iff_not] at h; omega
        clear f2 q hmn
        go_enter Try.func39, Try.ntmps39
        go_wp2
        all_goals (go_ret; exact ⟨by rw [HR.out]; rfl, HB.out⟩)
    have f2b : (d.fin == 2) = false := by rw [beq_eq_false_iff_ne]; exact f2
    by_cases f3 : d.fin = 3
    · have fb : (d.fin == 3) = true := by rw [beq_iff_eq]; exact f3
      by_cases q : d.wait.size = 0
      · have qb : ((d.wait.size : Int) == 0) = true := by rw [beq_iff_eq]; omega
        have HR : Hid (sendOk d = true) := by show _ = _; simp only [sendOk, within_iff, Bool.and_eq_true, Bool.or_eq_true, Bool.not_eq_true', decide_eq_true_eq, decide_eq_false_iff_not]; omega
        clear f3 q hmn
        go_enter Try.func39, Try.ntmps39
        go_wp2
        all_goals (go_ret; exact ⟨by rw [HR.out]; rfl, HB.out⟩)
      · have qb : ((d.wait.size : Int) == 0) = false := by rw [beq_eq_false_iff_ne]; omega
        have HR : Hid (sendOk d = false) := by show _ = _; rw [← Bool.not_eq_true]; intro h; simp only [sendOk, within_iff, Bool.and_eq_true, Bool.or_eq_true, Bool.not_eq_true', decide_eq_true_eq, decide_eq_false_iff_not] at h; omega
        clear f3 q hmn
        go_enter Try.func39, Try.ntmps39
        go_wp2
        all_goals (go_ret; exact ⟨by rw [HR.out]; rfl, HB.out⟩)
    have f3b : (d.fin == 3) = false := by rw [beq_eq_false_iff_ne]; exact f3
    have HR : Hid (sendOk d = false) := by show _ = _; rw [← Bool.not_eq_true]; intro h; simp only [sendOk, within_iff, Bool.and_eq_true, Bool.or_eq_true, Bool.not_eq_true', decide_eq_true_eq, decide_eq_false_iff_not] at h; omega
    clear hmn
    go_enter Try.func39, Try.ntmps39
    go_wp2
    all_goals (go_ret; exact ⟨by rw [HR.out]; rfl, HB.out⟩)
  · have hmn : min (d.wait.size : Int) 24 = 24 := by omega
    by_cases h3 : 24 < d.sent
    · skip
      have HR : Hid (sendOk d = false) := by show _ = _; rw [← Bool.not_eq_true]; intro h; simp only [sendOk, within_iff, Bool.and_eq_true, Bool.or_eq_true, Bool.not_eq_true', decide_eq_true_eq, decide_eq_false_iff_not] at h; omega
      clear hmn
      go_enter Try.func39, Try.ntmps39
      go_wp2
      all_goals (go_ret; exact ⟨by rw [HR.out]; rfl, HB.out⟩)
    by_cases f0 : d.fin = 0
    · have fb : (d.fin == 0) = true := by rw [beq_iff_eq]; exact f0
      have HR : Hid (sendOk d = true) := by show _ = _; simp only [sendOk, within_iff, Bool.and_eq_true, Bool.or_eq_true, Bool.not_eq_true', decide_eq_true_eq, decide_eq_false_iff_not]; omega
      clear f0 hmn
      go_enter Try.func39, Try.ntmps39
      go_wp2
      all_goals (go_ret; exact ⟨by rw [HR.out]; rfl, HB.out⟩)
    by_cases f1 : d.fin = 1
    · have fb : (d.fin == 1) = true := by rw [beq_iff_eq]; exact f1
      have HR : Hid (sendOk d = true) := by show _ = _; simp only [sendOk, within_iff, Bool.and_eq_true, Bool.or_eq_true, Bool.not_eq_true', decide_eq_true_eq, decide_eq_false_iff_not]; omega
      clear f1 hmn
      go_enter Try.func39, Try.ntmps39
      go_wp2
      all_goals (go_ret; exact ⟨by rw [HR.out]; rfl, HB.out⟩)
    have f0b : (d.fin == 0) = false := by rw [beq_eq_false_iff_ne]; exact f0
    have f1b : (d.fin == 1) = false := by rw [beq_eq_false_iff_ne]; exact f1
    by_cases f2 : d.fin = 2
    · have fb : (d.fin == 2) = true := by rw [beq_iff_eq]; exact f2
      by_cases q : d.sent = d.wait.size
      · have qb : (d.sent == (d.wait.size : Int)) = true := by rw [beq_iff_eq]; exact q
        have HR : Hid (sendOk d = true) := by show _ = _; simp only [sendOk, within_iff, Bool.and_eq_true, Bool.or_eq_true, Bool.not_eq_true', decide_eq_true_eq, decide_eq_false_iff_not]; omega
        clear f2 q hmn
        go_enter Try.func39, Try.ntmps39
        go_wp2
        all_goals (go_ret; exact ⟨by rw [HR.out]; rfl, HB.out⟩)
      · have qb : (d.sent == (d.wait.size : Int)) = false := by rw [beq_eq_false_iff_ne]; exact q
        have HR : Hid (sendOk d = false) := by show _ = _; rw [← Bool.not_eq_true]; intro h; simp only [sendOk, within_iff, Bool.and_eq_true, Bool.or_eq_true, Bool.not_eq_true', decide_eq_true_eq, decide_eq_false_iff_not] at h; omega
        clear f2 q hmn
        go_enter Try.func39, Try.ntmps39
        go_wp2
        all_goals (go_ret; exact ⟨by rw [HR.out]; rfl, HB.out⟩)
    have f2b : (d.fin == 2) = false := by rw [beq_eq_false_iff_ne]; exact f2
    by_cases f3 : d.fin = 3
    · have fb : (d.fin == 3) = true := by rw [beq_iff_eq]; exact f3
      by_cases q : d.wait.size = 0
      · have qb : ((d.wait.size : Int) == 0) = true := by rw [beq_iff_eq]; omega
        have HR : Hid (sendOk d = true) := by show _ = _; simp only [sendOk, within_iff, Bool.and_eq_true, Bool.or_eq_true, Bool.not_eq_true', decide_eq_true_eq, decide_eq_false_iff_not]; omega
        clear f3 q hmn
        go_enter Try.func39, Try.ntmps39
        go_wp2
        all_goals (go_ret; exact ⟨by rw [HR.out]; rfl, HB.out⟩)
      · have qb : ((d.wait.size : Int) == 0) = false := by rw [beq_eq_false_iff_ne]; omega
        have HR : Hid (sendOk d = false) := by show _ = _; rw [← Bool.not_eq_true]; intro h; simp only [sendOk, within_iff, Bool.and_eq_true, Bool.or_eq_true, Bool.not_eq_true', decide_eq_true_eq, decide_eq_false_iff_not] at h; omega
        clear f3 q hmn
        go_enter Try.func39, Try.ntmps39
        go_wp2
        all_goals (go_ret; exact ⟨by rw [HR.out]; rfl, HB.out⟩)
    have f3b : (d.fin == 3) = false := by rw [beq_eq_false_iff_ne]; exact f3
    have HR : Hid (sendOk d = false) := by show _ = _; rw [← Bool.not_eq_true]; intro h; simp only [sendOk, within_iff, Bool.and_eq_true, Bool.or_eq_true, Bool.not_eq_true', decide_eq_true_eq, decide_eq_false_iff_not] at h; omega
    clear hmn
    go_enter Try.func39, Try.ntmps39
    go_wp2
    all_goals (go_ret; exact ⟨by rw [HR.out]; rfl, HB.out⟩)
end Go.Proofs.Ytngcldjkpcmidaa
