/-
  The walk of impl.sendingOk: what it answers.
-/
import Derived.Test.YtcmcmhiodkjflaaJoint1
namespace Go.Proofs.Ytcmcmhiodkjflaa
open Go.RowKit

set_option maxRecDepth 1000000 in
set_option maxHeartbeats 2000000 in
theorem sendingOk_any (d : StrD) (ao : Option Addr) (cap : Nat) (s1 : d.wait.size ≤ 1048576) (w : World) :
    Calls Try.prog 46 #[.agg #[.int .i64 d.st, .int .i64 d.iss, .int .i64 d.una, .int .i64 d.rcv, .string d.wait, .int .i64 d.sent, .int .i64 d.fin, .bool d.pf, .string d.inn, .slice ao d.late.length cap, .bool d.owe, .int .i64 d.due, .int .i64 d.times]] w fun e w' => e = .returned (.bool (sendOk d)) ∧ Below w.heap.size w w' := by
  have HB0 := below_more (Below.refl w.heap.size w) (.cells #[.int .i64 d.st, .int .i64 d.iss, .int .i64 d.una, .int .i64 d.rcv, .string d.wait, .int .i64 d.sent, .int .i64 d.fin, .bool d.pf, .string d.inn, .slice ao d.late.length cap, .bool d.owe, .int .i64 d.due, .int .i64 d.times] 28)
  have hx : BlockIs (w.alloc (.cells #[.int .i64 d.st, .int .i64 d.iss, .int .i64 d.una, .int .i64 d.rcv, .string d.wait, .int .i64 d.sent, .int .i64 d.fin, .bool d.pf, .string d.inn, .slice ao d.late.length cap, .bool d.owe, .int .i64 d.due, .int .i64 d.times] 28)) w.heap.size 28 [.int .i64 d.st, .int .i64 d.iss, .int .i64 d.una, .int .i64 d.rcv, .string d.wait, .int .i64 d.sent, .int .i64 d.fin, .bool d.pf, .string d.inn, .slice ao d.late.length cap, .bool d.owe, .int .i64 d.due, .int .i64 d.times] := heap_alloc_new w _
  obtain ⟨W, hW⟩ : ∃ W, w.alloc (.cells #[.int .i64 d.st, .int .i64 d.iss, .int .i64 d.una, .int .i64 d.rcv, .string d.wait, .int .i64 d.sent, .int .i64 d.fin, .bool d.pf, .string d.inn, .slice ao d.late.length cap, .bool d.owe, .int .i64 d.due, .int .i64 d.times] 28) = W := ⟨_, rfl⟩
  rw [hW] at HB0 hx
  have HB := hid HB0
  have X0 := hid hx
  have c0 := hx.cell (j := 0) rfl
  have c1 := hx.cell (j := 1) rfl
  have c2 := hx.cell (j := 2) rfl
  have c3 := hx.cell (j := 3) rfl
  have c4 := hx.cell (j := 4) rfl
  have c5 := hx.cell (j := 5) rfl
  have c6 := hx.cell (j := 6) rfl
  have c7 := hx.cell (j := 7) rfl
  have c8 := hx.cell (j := 8) rfl
  have c9 := hx.cell (j := 9) rfl
  have c10 := hx.cell (j := 10) rfl
  have c11 := hx.cell (j := 11) rfl
  have c12 := hx.cell (j := 12) rfl
  clear hx HB0
  by_cases h1 : (200 : Int) < (d.wait.size : Int)
  · skip
    have HR : Hid (sendOk d = false) := by show _ = _; rw [← Bool.not_eq_true]; intro h; simp only [sendOk, within_iff, Bool.and_eq_true, Bool.or_eq_true, Bool.not_eq_true', decide_eq_true_eq, decide_eq_false_iff_not] at h; omega
    go_enter Try.func46, Try.ntmps46
    go_wp2
    all_goals (go_ret; exact ⟨by rw [HR.out]; rfl, HB.out⟩)
  by_cases h2 : d.sent < 0
  · skip
    have HR : Hid (sendOk d = false) := by show _ = _; rw [← Bool.not_eq_true]; intro h; simp only [sendOk, within_iff, Bool.and_eq_true, Bool.or_eq_true, Bool.not_eq_true', decide_eq_true_eq, decide_eq_false_iff_not] at h; omega
    go_enter Try.func46, Try.ntmps46
    go_wp2
    all_goals (go_ret; exact ⟨by rw [HR.out]; rfl, HB.out⟩)
  by_cases h24 : (d.wait.size : Int) < 24
  · have hmn : min (d.wait.size : Int) 24 = (d.wait.size : Int) := by omega
    by_cases h3 : (d.wait.size : Int) < d.sent
    · skip
      have HR : Hid (sendOk d = false) := by show _ = _; rw [← Bool.not_eq_true]; intro h; simp only [sendOk, within_iff, Bool.and_eq_true, Bool.or_eq_true, Bool.not_eq_true', decide_eq_true_eq, decide_eq_false_iff_not] at h; omega
      clear hmn
      go_enter Try.func46, Try.ntmps46
      go_wp2
      all_goals (go_ret; exact ⟨by rw [HR.out]; rfl, HB.out⟩)
    by_cases f0 : d.fin = 0
    · have fb : (d.fin == 0) = true := by rw [beq_iff_eq]; exact f0
      have HR : Hid (sendOk d = true) := by show _ = _; simp only [sendOk, within_iff, Bool.and_eq_true, Bool.or_eq_true, Bool.not_eq_true', decide_eq_true_eq, decide_eq_false_iff_not]; omega
      clear f0 hmn
      go_enter Try.func46, Try.ntmps46
      go_wp2
      all_goals (go_ret; exact ⟨by rw [HR.out]; rfl, HB.out⟩)
    by_cases f1 : d.fin = 1
    · have fb : (d.fin == 1) = true := by rw [beq_iff_eq]; exact f1
      have HR : Hid (sendOk d = true) := by show _ = _; simp only [sendOk, within_iff, Bool.and_eq_true, Bool.or_eq_true, Bool.not_eq_true', decide_eq_true_eq, decide_eq_false_iff_not]; omega
      clear f1 hmn
      go_enter Try.func46, Try.ntmps46
      go_wp2
      all_goals (go_ret; exact ⟨by rw [HR.out]; rfl, HB.out⟩)
    have f0b : (d.fin == 0) = false := by rw [beq_eq_false_iff_ne]; exact f0
    have f1b : (d.fin == 1) = false := by rw [beq_eq_false_iff_ne]; exact f1
    by_cases f2 : d.fin = 2
    · have fb : (d.fin == 2) = true := by rw [beq_iff_eq]; exact f2
      by_cases q : d.sent = d.wait.size
      · have qb : (d.sent == (d.wait.size : Int)) = true := by rw [beq_iff_eq]; exact q
        have HR : Hid (sendOk d = true) := by show _ = _; simp only [sendOk, within_iff, Bool.and_eq_true, Bool.or_eq_true, Bool.not_eq_true', decide_eq_true_eq, decide_eq_false_iff_not]; omega
        clear f2 q hmn
        go_enter Try.func46, Try.ntmps46
        go_wp2
        all_goals (go_ret; exact ⟨by rw [HR.out]; rfl, HB.out⟩)
      · have qb : (d.sent == (d.wait.size : Int)) = false := by rw [beq_eq_false_iff_ne]; exact q
        have HR : Hid (sendOk d = false) := by show _ = _; rw [← Bool.not_eq_true]; intro h; simp only [sendOk, within_iff, Bool.and_eq_true, Bool.or_eq_true, Bool.not_eq_true', decide_eq_true_eq, decide_eq_false_iff_not] at h; omega
        clear f2 q hmn
        go_enter Try.func46, Try.ntmps46
        go_wp2
        all_goals (go_ret; exact ⟨by rw [HR.out]; rfl, HB.out⟩)
    have f2b : (d.fin == 2) = false := by rw [beq_eq_false_iff_ne]; exact f2
    by_cases f3 : d.fin = 3
    · have fb : (d.fin == 3) = true := by rw [beq_iff_eq]; exact f3
      by_cases q : d.wait.size = 0
      · have qb : ((d.wait.size : Int) == 0) = true := by rw [beq_iff_eq]; omega
        have HR : Hid (sendOk d = true) := by show _ = _; simp only [sendOk, within_iff, Bool.and_eq_true, Bool.or_eq_true, Bool.not_eq_true', decide_eq_true_eq, decide_eq_false_iff_not]; omega
        clear f3 q hmn
        go_enter Try.func46, Try.ntmps46
        go_wp2
        all_goals (go_ret; exact ⟨by rw [HR.out]; rfl, HB.out⟩)
      · have qb : ((d.wait.size : Int) == 0) = false := by rw [beq_eq_false_iff_ne]; omega
        have HR : Hid (sendOk d = false) := by show _ = _; rw [← Bool.not_eq_true]; intro h; simp only [sendOk, within_iff, Bool.and_eq_true, Bool.or_eq_true, Bool.not_eq_true', decide_eq_true_eq, decide_eq_false_iff_not] at h; omega
        clear f3 q hmn
        go_enter Try.func46, Try.ntmps46
        go_wp2
        all_goals (go_ret; exact ⟨by rw [HR.out]; rfl, HB.out⟩)
    have f3b : (d.fin == 3) = false := by rw [beq_eq_false_iff_ne]; exact f3
    have HR : Hid (sendOk d = false) := by show _ = _; rw [← Bool.not_eq_true]; intro h; simp only [sendOk, within_iff, Bool.and_eq_true, Bool.or_eq_true, Bool.not_eq_true', decide_eq_true_eq, decide_eq_false_iff_not] at h; omega
    clear hmn
    go_enter Try.func46, Try.ntmps46
    go_wp2
    all_goals (go_ret; exact ⟨by rw [HR.out]; rfl, HB.out⟩)
  · have hmn : min (d.wait.size : Int) 24 = 24 := by omega
    by_cases h3 : 24 < d.sent
    · skip
      have HR : Hid (sendOk d = false) := by show _ = _; rw [← Bool.not_eq_true]; intro h; simp only [sendOk, within_iff, Bool.and_eq_true, Bool.or_eq_true, Bool.not_eq_true', decide_eq_true_eq, decide_eq_false_iff_not] at h; omega
      clear hmn
      go_enter Try.func46, Try.ntmps46
      go_wp2
      all_goals (go_ret; exact ⟨by rw [HR.out]; rfl, HB.out⟩)
    by_cases f0 : d.fin = 0
    · have fb : (d.fin == 0) = true := by rw [beq_iff_eq]; exact f0
      have HR : Hid (sendOk d = true) := by show _ = _; simp only [sendOk, within_iff, Bool.and_eq_true, Bool.or_eq_true, Bool.not_eq_true', decide_eq_true_eq, decide_eq_false_iff_not]; omega
      clear f0 hmn
      go_enter Try.func46, Try.ntmps46
      go_wp2
      all_goals (go_ret; exact ⟨by rw [HR.out]; rfl, HB.out⟩)
    by_cases f1 : d.fin = 1
    · have fb : (d.fin == 1) = true := by rw [beq_iff_eq]; exact f1
      have HR : Hid (sendOk d = true) := by show _ = _; simp only [sendOk, within_iff, Bool.and_eq_true, Bool.or_eq_true, Bool.not_eq_true', decide_eq_true_eq, decide_eq_false_iff_not]; omega
      clear f1 hmn
      go_enter Try.func46, Try.ntmps46
      go_wp2
      all_goals (go_ret; exact ⟨by rw [HR.out]; rfl, HB.out⟩)
    have f0b : (d.fin == 0) = false := by rw [beq_eq_false_iff_ne]; exact f0
    have f1b : (d.fin == 1) = false := by rw [beq_eq_false_iff_ne]; exact f1
    by_cases f2 : d.fin = 2
    · have fb : (d.fin == 2) = true := by rw [beq_iff_eq]; exact f2
      by_cases q : d.sent = d.wait.size
      · have qb : (d.sent == (d.wait.size : Int)) = true := by rw [beq_iff_eq]; exact q
        have HR : Hid (sendOk d = true) := by show _ = _; simp only [sendOk, within_iff, Bool.and_eq_true, Bool.or_eq_true, Bool.not_eq_true', decide_eq_true_eq, decide_eq_false_iff_not]; omega
        clear f2 q hmn
        go_enter Try.func46, Try.ntmps46
        go_wp2
        all_goals (go_ret; exact ⟨by rw [HR.out]; rfl, HB.out⟩)
      · have qb : (d.sent == (d.wait.size : Int)) = false := by rw [beq_eq_false_iff_ne]; exact q
        have HR : Hid (sendOk d = false) := by show _ = _; rw [← Bool.not_eq_true]; intro h; simp only [sendOk, within_iff, Bool.and_eq_true, Bool.or_eq_true, Bool.not_eq_true', decide_eq_true_eq, decide_eq_false_iff_not] at h; omega
        clear f2 q hmn
        go_enter Try.func46, Try.ntmps46
        go_wp2
        all_goals (go_ret; exact ⟨by rw [HR.out]; rfl, HB.out⟩)
    have f2b : (d.fin == 2) = false := by rw [beq_eq_false_iff_ne]; exact f2
    by_cases f3 : d.fin = 3
    · have fb : (d.fin == 3) = true := by rw [beq_iff_eq]; exact f3
      by_cases q : d.wait.size = 0
      · have qb : ((d.wait.size : Int) == 0) = true := by rw [beq_iff_eq]; omega
        have HR : Hid (sendOk d = true) := by show _ = _; simp only [sendOk, within_iff, Bool.and_eq_true, Bool.or_eq_true, Bool.not_eq_true', decide_eq_true_eq, decide_eq_false_iff_not]; omega
        clear f3 q hmn
        go_enter Try.func46, Try.ntmps46
        go_wp2
        all_goals (go_ret; exact ⟨by rw [HR.out]; rfl, HB.out⟩)
      · have qb : ((d.wait.size : Int) == 0) = false := by rw [beq_eq_false_iff_ne]; omega
        have HR : Hid (sendOk d = false) := by show _ = _; rw [← Bool.not_eq_true]; intro h; simp only [sendOk, within_iff, Bool.and_eq_true, Bool.or_eq_true, Bool.not_eq_true', decide_eq_true_eq, decide_eq_false_iff_not] at h; omega
        clear f3 q hmn
        go_enter Try.func46, Try.ntmps46
        go_wp2
        all_goals (go_ret; exact ⟨by rw [HR.out]; rfl, HB.out⟩)
    have f3b : (d.fin == 3) = false := by rw [beq_eq_false_iff_ne]; exact f3
    have HR : Hid (sendOk d = false) := by show _ = _; rw [← Bool.not_eq_true]; intro h; simp only [sendOk, within_iff, Bool.and_eq_true, Bool.or_eq_true, Bool.not_eq_true', decide_eq_true_eq, decide_eq_false_iff_not] at h; omega
    clear hmn
    go_enter Try.func46, Try.ntmps46
    go_wp2
    all_goals (go_ret; exact ⟨by rw [HR.out]; rfl, HB.out⟩)
end Go.Proofs.Ytcmcmhiodkjflaa
