/-
  The walk of spec.l12Has: whether a segment bears a flag.
-/
import Derived.Test.YtngcldjkpcmidaaJoint1
import Derived.Test.YtngcldjkpcmidaaRows
namespace Go.Proofs.Ytngcldjkpcmidaa
open Go.RowKit

set_option maxRecDepth 1000000 in
theorem l12Has_one (a b f : Int) (s : ByteArray) (h1 : 0 ≤ f) (h2 : f ≤ 7) (w : World) :
    Calls Try.prog 20 #[.agg #[.int .i64 a, .int .i64 b, .int .i64 f, .string s], .int .i64 1] w fun e w' => e = .returned (.bool (decide (f % 2 = 1))) ∧ Below w.heap.size w w' := by
  have HB := hid (below_more (Below.refl w.heap.size w) (.cells #[.int .i64 a, .int .i64 b, .int .i64 f, .string s] 34))
  have hx : BlockIs (w.alloc (.cells #[.int .i64 a, .int .i64 b, .int .i64 f, .string s] 34)) w.heap.size 34 [.int .i64 a, .int .i64 b, .int .i64 f, .string s] := heap_alloc_new w _
  obtain ⟨W, hW⟩ : ∃ W, w.alloc (.cells #[.int .i64 a, .int .i64 b, .int .i64 f, .string s] 34) = W := ⟨_, rfl⟩
  rw [hW] at HB hx
  have c2 := hx.cell (j := 2) rfl
  clear hx
  obtain ⟨q, hq⟩ : ∃ q, f / 1 = q := ⟨_, rfl⟩
  have hq1 : f.tdiv 1 = q := by rw [Int.tdiv_eq_ediv_of_nonneg h1]; exact hq
  have q1 : 0 ≤ q ∧ q ≤ 7 := by omega
  obtain ⟨q2, q3⟩ := q1
  obtain ⟨r, hr⟩ : ∃ r, q % 2 = r := ⟨_, rfl⟩
  have hr1 : q.tmod 2 = r := by rw [Int.tmod_eq_emod_of_nonneg q2]; exact hr
  have HR : Hid (decide (f % 2 = 1) = (r == 1)) := by
    show _ = _
    rw [Bool.eq_iff_iff, decide_eq_true_eq, beq_iff_eq]
    omega
  have r1 : 0 ≤ r ∧ r ≤ 1 := by omega
  obtain ⟨r2, r3⟩ := r1
  clear hq hr
  go_enter Try.func20, Try.ntmps20
  go_wp2
  go_ret
  exact ⟨by rw [HR.out]; rfl, HB.out⟩

set_option maxRecDepth 1000000 in
theorem l12Has_two (a b f : Int) (s : ByteArray) (h1 : 0 ≤ f) (h2 : f ≤ 7) (w : World) :
    Calls Try.prog 20 #[.agg #[.int .i64 a, .int .i64 b, .int .i64 f, .string s], .int .i64 2] w fun e w' => e = .returned (.bool (decide (f / 2 % 2 = 1))) ∧ Below w.heap.size w w' := by
  have HB := hid (below_more (Below.refl w.heap.size w) (.cells #[.int .i64 a, .int .i64 b, .int .i64 f, .string s] 34))
  have hx : BlockIs (w.alloc (.cells #[.int .i64 a, .int .i64 b, .int .i64 f, .string s] 34)) w.heap.size 34 [.int .i64 a, .int .i64 b, .int .i64 f, .string s] := heap_alloc_new w _
  obtain ⟨W, hW⟩ : ∃ W, w.alloc (.cells #[.int .i64 a, .int .i64 b, .int .i64 f, .string s] 34) = W := ⟨_, rfl⟩
  rw [hW] at HB hx
  have c2 := hx.cell (j := 2) rfl
  clear hx
  obtain ⟨q, hq⟩ : ∃ q, f / 2 = q := ⟨_, rfl⟩
  have hq1 : f.tdiv 2 = q := by rw [Int.tdiv_eq_ediv_of_nonneg h1]; exact hq
  have q1 : 0 ≤ q ∧ q ≤ 7 := by omega
  obtain ⟨q2, q3⟩ := q1
  obtain ⟨r, hr⟩ : ∃ r, q % 2 = r := ⟨_, rfl⟩
  have hr1 : q.tmod 2 = r := by rw [Int.tmod_eq_emod_of_nonneg q2]; exact hr
  have HR : Hid (decide (f / 2 % 2 = 1) = (r == 1)) := by
    show _ = _
    rw [Bool.eq_iff_iff, decide_eq_true_eq, beq_iff_eq]
    omega
  have r1 : 0 ≤ r ∧ r ≤ 1 := by omega
  obtain ⟨r2, r3⟩ := r1
  clear hq hr
  go_enter Try.func20, Try.ntmps20
  go_wp2
  go_ret
  exact ⟨by rw [HR.out]; rfl, HB.out⟩

set_option maxRecDepth 1000000 in
theorem l12Has_four (a b f : Int) (s : ByteArray) (h1 : 0 ≤ f) (h2 : f ≤ 7) (w : World) :
    Calls Try.prog 20 #[.agg #[.int .i64 a, .int .i64 b, .int .i64 f, .string s], .int .i64 4] w fun e w' => e = .returned (.bool (decide (f / 4 % 2 = 1))) ∧ Below w.heap.size w w' := by
  have HB := hid (below_more (Below.refl w.heap.size w) (.cells #[.int .i64 a, .int .i64 b, .int .i64 f, .string s] 34))
  have hx : BlockIs (w.alloc (.cells #[.int .i64 a, .int .i64 b, .int .i64 f, .string s] 34)) w.heap.size 34 [.int .i64 a, .int .i64 b, .int .i64 f, .string s] := heap_alloc_new w _
  obtain ⟨W, hW⟩ : ∃ W, w.alloc (.cells #[.int .i64 a, .int .i64 b, .int .i64 f, .string s] 34) = W := ⟨_, rfl⟩
  rw [hW] at HB hx
  have c2 := hx.cell (j := 2) rfl
  clear hx
  obtain ⟨q, hq⟩ : ∃ q, f / 4 = q := ⟨_, rfl⟩
  have hq1 : f.tdiv 4 = q := by rw [Int.tdiv_eq_ediv_of_nonneg h1]; exact hq
  have q1 : 0 ≤ q ∧ q ≤ 7 := by omega
  obtain ⟨q2, q3⟩ := q1
  obtain ⟨r, hr⟩ : ∃ r, q % 2 = r := ⟨_, rfl⟩
  have hr1 : q.tmod 2 = r := by rw [Int.tmod_eq_emod_of_nonneg q2]; exact hr
  have HR : Hid (decide (f / 4 % 2 = 1) = (r == 1)) := by
    show _ = _
    rw [Bool.eq_iff_iff, decide_eq_true_eq, beq_iff_eq]
    omega
  have r1 : 0 ≤ r ∧ r ≤ 1 := by omega
  obtain ⟨r2, r3⟩ := r1
  clear hq hr
  go_enter Try.func20, Try.ntmps20
  go_wp2
  go_ret
  exact ⟨by rw [HR.out]; rfl, HB.out⟩

end Go.Proofs.Ytngcldjkpcmidaa
