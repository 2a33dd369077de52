/-
  The walk of impl.headText: the six bytes of a datagram's head.
-/
import Derived.Test.YthkkhmmcgjcedaaDoorJoint24
import Derived.Laws.Concat
import Derived.BigQuiet
import Derived.Lib.QuietBelow
import Derived.Deep.QuietTactic
namespace Go.Proofs.YthkkhmmcgjcedaaDoor
open Go.RowKit

set_option maxRecDepth 1000000 in
set_option maxHeartbeats 4000000 in
theorem headText_nat (a b c p : Nat) (m : Bool) (s : ByteArray) (ha : a ≤ 99) (hb : b ≤ 99) (hc : c ≤ 65535) (hp : p ≤ 160) (w : World) :
    Calls Tryd.prog 32 #[.agg #[.int .i64 (a : Int), .int .i64 (b : Int), .int .i64 (c : Int), .int .i64 (p : Int), .bool m, .string s]] w fun e w' => e = .returned (.string ⟨(dHead ⟨a, b, c, p, m, s⟩).toArray⟩) ∧ Below w.heap.size w w' := by
  have hx0 : BlockIs (w.alloc (.cells #[.int .i64 (a : Int), .int .i64 (b : Int), .int .i64 (c : Int), .int .i64 (p : Int), .bool m, .string s] 36)) w.heap.size 36 [.int .i64 (a : Int), .int .i64 (b : Int), .int .i64 (c : Int), .int .i64 (p : Int), .bool m, .string s] := heap_alloc_new w _
  have B0 := hid (below_more (Below.refl w.heap.size w) (.cells #[.int .i64 (a : Int), .int .i64 (b : Int), .int .i64 (c : Int), .int .i64 (p : Int), .bool m, .string s] 36))
  obtain ⟨W0, hW0⟩ : ∃ W, w.alloc (.cells #[.int .i64 (a : Int), .int .i64 (b : Int), .int .i64 (c : Int), .int .i64 (p : Int), .bool m, .string s] 36) = W := ⟨_, rfl⟩
  rw [hW0] at hx0 B0
  have X0 := hid hx0
  have z4 := hx0.cell (j := 4) rfl
  clear hx0
  obtain ⟨q, hq⟩ : ∃ q, p / 8 = q := ⟨_, rfl⟩
  have hq2 : q ≤ 20 := by omega
  have hdq : (p : Int).tdiv 8 = (q : Int) := by rw [Int.tdiv_eq_ediv_of_nonneg (by omega)]; omega
  have hwqi : IntKind.i64.wrap (q : Int) = (q : Int) := by rw [IntKind.wrap_i64]; omega
  have hwa : IntKind.u8.wrap (a : Int) = (a : Int) := by rw [IntKind.wrap_u8]; omega
  have hwb : IntKind.u8.wrap (b : Int) = (b : Int) := by rw [IntKind.wrap_u8]; omega
  have hwq : IntKind.u8.wrap (q : Int) = (q : Int) := by rw [IntKind.wrap_u8]; omega
  obtain ⟨H1, e1⟩ : ∃ H, two2 a b = H := ⟨_, rfl⟩
  obtain ⟨H2, e2⟩ : ∃ H : ByteArray, ⟨(twoB c).toArray⟩ = H := ⟨_, rfl⟩
  obtain ⟨mm, hmm⟩ : ∃ x : Nat, (if m then 1 else 0) = x := ⟨_, rfl⟩
  have hmm2 : mm ≤ 1 := by rw [← hmm]; split <;> omega
  obtain ⟨H3, e3⟩ : ∃ H, two2 q mm = H := ⟨_, rfl⟩
  have hz1 : H1.size = 2 := by rw [← e1]; rfl
  have hz2 : H2.size = 2 := by rw [← e2]; rfl
  have hz3 : H3.size = 2 := by rw [← e3]; rfl
  obtain ⟨H12, e12⟩ : ∃ H, H1 ++ H2 = H := ⟨_, rfl⟩
  have hz12 : H12.size = 4 := by rw [← e12, ByteArray.size_append]; omega
  obtain ⟨H, eH⟩ : ∃ H, H12 ++ H3 = H := ⟨_, rfl⟩
  have hs1 : ∀ w, (Op.stringOp .add H1 H2).run Tryd.prog w = .ok (.string H12) w := fun w => by rw [run_string_add_sum w _ _ (by omega), e12]
  have hs2 : ∀ w, (Op.stringOp .add H12 H3).run Tryd.prog w = .ok (.string H) w := fun w => by rw [run_string_add_sum w _ _ (by omega), eH]
  have HR : Hid ((⟨(dHead ⟨a, b, c, p, m, s⟩).toArray⟩ : ByteArray) = H) := by
    show _ = _
    apply ByteArray.ext
    apply Array.toList_inj.1
    rw [← eH, ← e12, ← e1, ← e2, ← e3, ByteArray.data_append, ByteArray.data_append, Array.toList_append, Array.toList_append]
    simp only [dHead, Int.toNat_natCast, hq, hmm]
    rfl
  have H1e := hid e1
  have H2e := hid e2
  have H3e := hid e3
  have HZ := hid (And.intro hz1 (And.intro hz2 hz3))
  clear e1 e2 e3 e12 eH hz1 hz2 hz3 hz12 hq
  go_enter Tryd.func32, Tryd.ntmps32
  cases m with
  | false =>
    obtain rfl : 0 = mm := hmm
    have hy : BlockIs (W0.alloc (.cells #[.int .u8 (a : Int), .int .u8 (b : Int)] 5)) W0.heap.size 5 [.int .u8 (a : Int), .int .u8 (b : Int)] := heap_alloc_new W0 _
    have by1 := below_more (Below.refl W0.heap.size W0) (.cells #[.int .u8 (a : Int), .int .u8 (b : Int)] 5)
    obtain ⟨W1, hW1⟩ : ∃ W, W0.alloc (.cells #[.int .u8 (a : Int), .int .u8 (b : Int)] 5) = W := ⟨_, rfl⟩
    rw [hW1] at hy by1
    have hq9 : BlockIs (W1.alloc (.cells #[.int .u8 (q : Int), .int .u8 0] 5)) W1.heap.size 5 [.int .u8 (q : Int), .int .u8 ((0 : Nat) : Int)] := heap_alloc_new W1 _
    have by2 := below_more (Below.refl W1.heap.size W1) (.cells #[.int .u8 (q : Int), .int .u8 0] 5)
    obtain ⟨W2, hW2⟩ : ∃ W, W1.alloc (.cells #[.int .u8 (q : Int), .int .u8 0] 5) = W := ⟨_, rfl⟩
    rw [hW2] at hq9 by2
    have x1 := X0.out.on by1 X0.out.lt
    have e3 := x1.cell (j := 3) rfl
    have x2 := x1.on by2 x1.lt
    have hy2 := hy.on by2 hy.lt
    have HY := hid (below_via by1 by2)
    have K1 : ∀ d os, (convert 46 9 (.slice (some ⟨W0.heap.size, 0, none⟩) 2 2)).run Tryd.prog (Go.Sort.grow (redrawn W2 d) os) = .ok (.string H1) (Go.Sort.grow (redrawn W2 d) os) := fun d os => by
      have := two2_text (a := a) (b := b) (by omega) (by omega) (hy2.on (below_regrown W2 d os) hy2.lt)
      rw [H1e.out] at this
      exact this
    have K3 : ∀ d os, (convert 46 9 (.slice (some ⟨W1.heap.size, 0, none⟩) 2 2)).run Tryd.prog (Go.Sort.grow (redrawn W2 d) os) = .ok (.string H3) (Go.Sort.grow (redrawn W2 d) os) := fun d os => by
      have := two2_text (a := q) (b := 0) (by omega) (by omega) (hq9.on (below_regrown W2 d os) hq9.lt)
      rw [H3e.out] at this
      exact this
    have K2 := fun d os => Calls.regrown_of (w := W2) (d := d) (os := os) (twoBytes_any c (by omega) _)
    rw [H2e.out] at K2
    have D2 := hid K2
    have Z2 := cell_regrown (x2.cell (j := 2) rfl)
    have z0 := X0.out.cell (j := 0) rfl
    have z1 := X0.out.cell (j := 1) rfl
    clear K2 hy hy2 hq9 x1 x2 by1 by2
    go_wp2
    refine wp_region_quiet_below (by kernel_rfl) (by kernel_rfl) ?_
    repeat (first | go_big_quiet_step (first | (go_at_call 33; exact D2.out _ _) | fail) | quiet_step (first | (go_at_call 33; exact D2.out _ _) | fail))
    refine wpQuiet_nil ?_
    intro _ hw'
    obtain ⟨⟨dq, osq⟩, hw''⟩ := hw'
    subst hw''
    have BL := hid (below_via B0.out (below_via HY.out (below_regrown W2 dq osq)))
    generalize Go.Sort.grow (redrawn W2 dq) osq = w3 at BL ⊢
    clear D2 Z2 K1 K3
    go_wp2
    go_ret
    exact ⟨by rw [HR.out]; rfl, BL.out⟩
  | true =>
    obtain rfl : 1 = mm := hmm
    have hy : BlockIs (W0.alloc (.cells #[.int .u8 (a : Int), .int .u8 (b : Int)] 5)) W0.heap.size 5 [.int .u8 (a : Int), .int .u8 (b : Int)] := heap_alloc_new W0 _
    have by1 := below_more (Below.refl W0.heap.size W0) (.cells #[.int .u8 (a : Int), .int .u8 (b : Int)] 5)
    obtain ⟨W1, hW1⟩ : ∃ W, W0.alloc (.cells #[.int .u8 (a : Int), .int .u8 (b : Int)] 5) = W := ⟨_, rfl⟩
    rw [hW1] at hy by1
    have hq9 : BlockIs (W1.alloc (.cells #[.int .u8 (q : Int), .int .u8 1] 5)) W1.heap.size 5 [.int .u8 (q : Int), .int .u8 ((1 : Nat) : Int)] := heap_alloc_new W1 _
    have by2 := below_more (Below.refl W1.heap.size W1) (.cells #[.int .u8 (q : Int), .int .u8 1] 5)
    obtain ⟨W2, hW2⟩ : ∃ W, W1.alloc (.cells #[.int .u8 (q : Int), .int .u8 1] 5) = W := ⟨_, rfl⟩
    rw [hW2] at hq9 by2
    have x1 := X0.out.on by1 X0.out.lt
    have e3 := x1.cell (j := 3) rfl
    have x2 := x1.on by2 x1.lt
    have hy2 := hy.on by2 hy.lt
    have HY := hid (below_via by1 by2)
    have K1 : ∀ d os, (convert 46 9 (.slice (some ⟨W0.heap.size, 0, none⟩) 2 2)).run Tryd.prog (Go.Sort.grow (redrawn W2 d) os) = .ok (.string H1) (Go.Sort.grow (redrawn W2 d) os) := fun d os => by
      have := two2_text (a := a) (b := b) (by omega) (by omega) (hy2.on (below_regrown W2 d os) hy2.lt)
      rw [H1e.out] at this
      exact this
    have K3 : ∀ d os, (convert 46 9 (.slice (some ⟨W1.heap.size, 0, none⟩) 2 2)).run Tryd.prog (Go.Sort.grow (redrawn W2 d) os) = .ok (.string H3) (Go.Sort.grow (redrawn W2 d) os) := fun d os => by
      have := two2_text (a := q) (b := 1) (by omega) (by omega) (hq9.on (below_regrown W2 d os) hq9.lt)
      rw [H3e.out] at this
      exact this
    have K2 := fun d os => Calls.regrown_of (w := W2) (d := d) (os := os) (twoBytes_any c (by omega) _)
    rw [H2e.out] at K2
    have D2 := hid K2
    have Z2 := cell_regrown (x2.cell (j := 2) rfl)
    have z0 := X0.out.cell (j := 0) rfl
    have z1 := X0.out.cell (j := 1) rfl
    clear K2 hy hy2 hq9 x1 x2 by1 by2
    go_wp2
    refine wp_region_quiet_below (by kernel_rfl) (by kernel_rfl) ?_
    repeat (first | go_big_quiet_step (first | (go_at_call 33; exact D2.out _ _) | fail) | quiet_step (first | (go_at_call 33; exact D2.out _ _) | fail))
    refine wpQuiet_nil ?_
    intro _ hw'
    obtain ⟨⟨dq, osq⟩, hw''⟩ := hw'
    subst hw''
    have BL := hid (below_via B0.out (below_via HY.out (below_regrown W2 dq osq)))
    generalize Go.Sort.grow (redrawn W2 dq) osq = w3 at BL ⊢
    clear D2 Z2 K1 K3
    go_wp2
    go_ret
    exact ⟨by rw [HR.out]; rfl, BL.out⟩
end Go.Proofs.YthkkhmmcgjcedaaDoor
