/-
  The walks of impl.itemOk, impl.sessionOk.
-/
import Derived.Test.YtihgkocfgjihhaaGreatDoorJoint1
import Derived.Test.YtihgkocfgjihhaaGreatDoorJoint14
import Derived.Test.YtihgkocfgjihhaaGreatDoorRows
import Derived.Deep.QuietTactic
import Derived.BigQuiet
import Derived.Lib.QuietBelow
namespace Go.Proofs.YtihgkocfgjihhaaGreatDoor
open Go.RowKit

set_option maxRecDepth 1000000 in
set_option maxHeartbeats 2000000 in
theorem itemOk_any (d : ItemD) (w : World) :
    Calls Tryz.prog 161 #[.agg #[.string d.key, .string d.val, .int .i64 d.ver]] w fun e w' => e = .returned (.bool (itemFine d)) ∧ Below w.heap.size w w' := by
  obtain ⟨k, v, n⟩ := d
  dsimp only
  have HB := hid (below_more (Below.refl w.heap.size w) (.cells #[.string k, .string v, .int .i64 n] 124))
  have hx : BlockIs (w.alloc (.cells #[.string k, .string v, .int .i64 n] 124)) w.heap.size 124 [.string k, .string v, .int .i64 n] := heap_alloc_new w _
  obtain ⟨W, hW⟩ : ∃ W, w.alloc (.cells #[.string k, .string v, .int .i64 n] 124) = W := ⟨_, rfl⟩
  rw [hW] at HB hx
  have c0 := hx.cell (j := 0) rfl
  have c1 := hx.cell (j := 1) rfl
  have c2 := hx.cell (j := 2) rfl
  clear hx
  have m0 := fun w => keyOk_any k w
  cases h0 : within (k.size : Int) 1 8 with
  | false =>
    rw [h0] at m0
    have n0 := hid m0
    clear m0
    have HR : Hid (itemFine ⟨k, v, n⟩ = false) := by show _ = _; simp [itemFine, h0]
    clear h0
    go_enter Tryz.func161, Tryz.ntmps161
    go_wp2_with (first | (go_at_call 182; with_reducible refine Calls.mono (n0.out _) ?_; rintro e w1 ⟨rfl, hw⟩; rw [hw]; clear hw w1) | fail)
    go_ret
    exact ⟨by rw [HR.out]; rfl, HB.out⟩
  | true =>
    rw [h0] at m0
    have n0 := hid m0
    clear m0
    have m1 := fun w => valOk_any v w
    cases h1 : decide ((v.size : Int) ≤ 20) with
    | false =>
      rw [h1] at m1
      have n1 := hid m1
      clear m1
      have HR : Hid (itemFine ⟨k, v, n⟩ = false) := by show _ = _; simp [itemFine, h0, h1]
      clear h0 h1
      go_enter Tryz.func161, Tryz.ntmps161
      go_wp2_with (first | (go_at_call 182; with_reducible refine Calls.mono (n0.out _) ?_; rintro e w1 ⟨rfl, hw⟩; rw [hw]; clear hw w1) | (go_at_call 183; with_reducible refine Calls.mono (n1.out _) ?_; rintro e w1 ⟨rfl, hw⟩; rw [hw]; clear hw w1) | fail)
      go_ret
      exact ⟨by rw [HR.out]; rfl, HB.out⟩
    | true =>
      rw [h1] at m1
      have n1 := hid m1
      clear m1
      have m2 := fun w => verOk_any n w
      cases h2 : within n 1 1000000000 with
      | false =>
        rw [h2] at m2
        have n2 := hid m2
        clear m2
        have HR : Hid (itemFine ⟨k, v, n⟩ = false) := by show _ = _; simp [itemFine, h0, h1, h2]
        clear h0 h1 h2
        go_enter Tryz.func161, Tryz.ntmps161
        go_wp2_with (first | (go_at_call 182; with_reducible refine Calls.mono (n0.out _) ?_; rintro e w1 ⟨rfl, hw⟩; rw [hw]; clear hw w1) | (go_at_call 183; with_reducible refine Calls.mono (n1.out _) ?_; rintro e w1 ⟨rfl, hw⟩; rw [hw]; clear hw w1) | (go_at_call 184; with_reducible refine Calls.mono (n2.out _) ?_; rintro e w1 ⟨rfl, hw⟩; rw [hw]; clear hw w1) | fail)
        go_ret
        exact ⟨by rw [HR.out]; rfl, HB.out⟩
      | true =>
        rw [h2] at m2
        have n2 := hid m2
        clear m2
        have HR : Hid (itemFine ⟨k, v, n⟩ = true) := by show _ = _; simp [itemFine, h0, h1, h2]
        clear h0 h1 h2
        go_enter Tryz.func161, Tryz.ntmps161
        go_wp2_with (first | (go_at_call 182; with_reducible refine Calls.mono (n0.out _) ?_; rintro e w1 ⟨rfl, hw⟩; rw [hw]; clear hw w1) | (go_at_call 183; with_reducible refine Calls.mono (n1.out _) ?_; rintro e w1 ⟨rfl, hw⟩; rw [hw]; clear hw w1) | (go_at_call 184; with_reducible refine Calls.mono (n2.out _) ?_; rintro e w1 ⟨rfl, hw⟩; rw [hw]; clear hw w1) | fail)
        go_ret
        exact ⟨by rw [HR.out]; rfl, HB.out⟩

set_option maxRecDepth 1000000 in
set_option maxHeartbeats 2000000 in
theorem sessionOk_any (d : SessionD) (w : World) :
    Calls Tryz.prog 160 #[.agg #[.int .i64 d.token, .int .i64 d.last, .string d.reply]] w fun e w' => e = .returned (.bool (sessionFine d)) ∧ Below w.heap.size w w' := by
  obtain ⟨t, n, s⟩ := d
  dsimp only
  have HB := hid (below_more (Below.refl w.heap.size w) (.cells #[.int .i64 t, .int .i64 n, .string s] 121))
  have hx : BlockIs (w.alloc (.cells #[.int .i64 t, .int .i64 n, .string s] 121)) w.heap.size 121 [.int .i64 t, .int .i64 n, .string s] := heap_alloc_new w _
  obtain ⟨W, hW⟩ : ∃ W, w.alloc (.cells #[.int .i64 t, .int .i64 n, .string s] 121) = W := ⟨_, rfl⟩
  rw [hW] at HB hx
  have c0 := hx.cell (j := 0) rfl
  have c1 := hx.cell (j := 1) rfl
  have c2 := hx.cell (j := 2) rfl
  have hse := blank_text s
  clear hx
  have m1 := fun w => indexOk_any t w
  have m2 := fun w => seqOk_any n w
  cases hT : within t 1 1000000 <;> cases hV : within n 0 1000000
  · rw [hT] at m1
    rw [hV] at m2
    have n1 := hid m1
    have n2 := hid m2
    clear m1 m2
    by_cases h4 : (s.size : Int) ≤ 40
    · by_cases h0 : 0 < n
      · skip
        have HR : Hid (sessionFine ⟨t, n, s⟩ = false) := by show _ = _; simp [sessionFine, hT]
        clear hT hV
        go_enter Tryz.func160, Tryz.ntmps160
        go_wp2_with (first | (go_at_call 166; with_reducible refine Calls.mono (n1.out _) ?_; rintro e w1 ⟨rfl, hw⟩; rw [hw]; clear hw w1) | (go_at_call 181; with_reducible refine Calls.mono (n2.out _) ?_; rintro e w1 ⟨rfl, hw⟩; rw [hw]; clear hw w1) | fail)
        go_ret
        exact ⟨by rw [HR.out]; rfl, HB.out⟩
      · by_cases y : s.size = 0
        · rw [decide_eq_true y] at hse
          have HR : Hid (sessionFine ⟨t, n, s⟩ = false) := by show _ = _; simp [sessionFine, hT]
          clear hT hV
          go_enter Tryz.func160, Tryz.ntmps160
          go_wp2_with (first | (go_at_call 166; with_reducible refine Calls.mono (n1.out _) ?_; rintro e w1 ⟨rfl, hw⟩; rw [hw]; clear hw w1) | (go_at_call 181; with_reducible refine Calls.mono (n2.out _) ?_; rintro e w1 ⟨rfl, hw⟩; rw [hw]; clear hw w1) | fail)
          go_ret
          exact ⟨by rw [HR.out]; rfl, HB.out⟩
        · rw [decide_eq_false y] at hse
          have HR : Hid (sessionFine ⟨t, n, s⟩ = false) := by show _ = _; simp [sessionFine, hT]
          clear hT hV
          go_enter Tryz.func160, Tryz.ntmps160
          go_wp2_with (first | (go_at_call 166; with_reducible refine Calls.mono (n1.out _) ?_; rintro e w1 ⟨rfl, hw⟩; rw [hw]; clear hw w1) | (go_at_call 181; with_reducible refine Calls.mono (n2.out _) ?_; rintro e w1 ⟨rfl, hw⟩; rw [hw]; clear hw w1) | fail)
          go_ret
          exact ⟨by rw [HR.out]; rfl, HB.out⟩
    · skip
      have HR : Hid (sessionFine ⟨t, n, s⟩ = false) := by show _ = _; simp [sessionFine, hT]
      clear hT hV
      go_enter Tryz.func160, Tryz.ntmps160
      go_wp2_with (first | (go_at_call 166; with_reducible refine Calls.mono (n1.out _) ?_; rintro e w1 ⟨rfl, hw⟩; rw [hw]; clear hw w1) | (go_at_call 181; with_reducible refine Calls.mono (n2.out _) ?_; rintro e w1 ⟨rfl, hw⟩; rw [hw]; clear hw w1) | fail)
      go_ret
      exact ⟨by rw [HR.out]; rfl, HB.out⟩
  · rw [hT] at m1
    rw [hV] at m2
    have n1 := hid m1
    have n2 := hid m2
    clear m1 m2
    by_cases h4 : (s.size : Int) ≤ 40
    · by_cases h0 : 0 < n
      · skip
        have HR : Hid (sessionFine ⟨t, n, s⟩ = false) := by show _ = _; simp [sessionFine, hT]
        clear hT hV
        go_enter Tryz.func160, Tryz.ntmps160
        go_wp2_with (first | (go_at_call 166; with_reducible refine Calls.mono (n1.out _) ?_; rintro e w1 ⟨rfl, hw⟩; rw [hw]; clear hw w1) | (go_at_call 181; with_reducible refine Calls.mono (n2.out _) ?_; rintro e w1 ⟨rfl, hw⟩; rw [hw]; clear hw w1) | fail)
        go_ret
        exact ⟨by rw [HR.out]; rfl, HB.out⟩
      · by_cases y : s.size = 0
        · rw [decide_eq_true y] at hse
          have HR : Hid (sessionFine ⟨t, n, s⟩ = false) := by show _ = _; simp [sessionFine, hT]
          clear hT hV
          go_enter Tryz.func160, Tryz.ntmps160
          go_wp2_with (first | (go_at_call 166; with_reducible refine Calls.mono (n1.out _) ?_; rintro e w1 ⟨rfl, hw⟩; rw [hw]; clear hw w1) | (go_at_call 181; with_reducible refine Calls.mono (n2.out _) ?_; rintro e w1 ⟨rfl, hw⟩; rw [hw]; clear hw w1) | fail)
          go_ret
          exact ⟨by rw [HR.out]; rfl, HB.out⟩
        · rw [decide_eq_false y] at hse
          have HR : Hid (sessionFine ⟨t, n, s⟩ = false) := by show _ = _; simp [sessionFine, hT]
          clear hT hV
          go_enter Tryz.func160, Tryz.ntmps160
          go_wp2_with (first | (go_at_call 166; with_reducible refine Calls.mono (n1.out _) ?_; rintro e w1 ⟨rfl, hw⟩; rw [hw]; clear hw w1) | (go_at_call 181; with_reducible refine Calls.mono (n2.out _) ?_; rintro e w1 ⟨rfl, hw⟩; rw [hw]; clear hw w1) | fail)
          go_ret
          exact ⟨by rw [HR.out]; rfl, HB.out⟩
    · skip
      have HR : Hid (sessionFine ⟨t, n, s⟩ = false) := by show _ = _; simp [sessionFine, hT]
      clear hT hV
      go_enter Tryz.func160, Tryz.ntmps160
      go_wp2_with (first | (go_at_call 166; with_reducible refine Calls.mono (n1.out _) ?_; rintro e w1 ⟨rfl, hw⟩; rw [hw]; clear hw w1) | (go_at_call 181; with_reducible refine Calls.mono (n2.out _) ?_; rintro e w1 ⟨rfl, hw⟩; rw [hw]; clear hw w1) | fail)
      go_ret
      exact ⟨by rw [HR.out]; rfl, HB.out⟩
  · rw [hT] at m1
    rw [hV] at m2
    have n1 := hid m1
    have n2 := hid m2
    clear m1 m2
    by_cases h4 : (s.size : Int) ≤ 40
    · by_cases h0 : 0 < n
      · skip
        have HR : Hid (sessionFine ⟨t, n, s⟩ = false) := by show _ = _; simp [sessionFine, hV]
        clear hT hV
        go_enter Tryz.func160, Tryz.ntmps160
        go_wp2_with (first | (go_at_call 166; with_reducible refine Calls.mono (n1.out _) ?_; rintro e w1 ⟨rfl, hw⟩; rw [hw]; clear hw w1) | (go_at_call 181; with_reducible refine Calls.mono (n2.out _) ?_; rintro e w1 ⟨rfl, hw⟩; rw [hw]; clear hw w1) | fail)
        go_ret
        exact ⟨by rw [HR.out]; rfl, HB.out⟩
      · by_cases y : s.size = 0
        · rw [decide_eq_true y] at hse
          have HR : Hid (sessionFine ⟨t, n, s⟩ = false) := by show _ = _; simp [sessionFine, hV]
          clear hT hV
          go_enter Tryz.func160, Tryz.ntmps160
          go_wp2_with (first | (go_at_call 166; with_reducible refine Calls.mono (n1.out _) ?_; rintro e w1 ⟨rfl, hw⟩; rw [hw]; clear hw w1) | (go_at_call 181; with_reducible refine Calls.mono (n2.out _) ?_; rintro e w1 ⟨rfl, hw⟩; rw [hw]; clear hw w1) | fail)
          go_ret
          exact ⟨by rw [HR.out]; rfl, HB.out⟩
        · rw [decide_eq_false y] at hse
          have HR : Hid (sessionFine ⟨t, n, s⟩ = false) := by show _ = _; simp [sessionFine, hV]
          clear hT hV
          go_enter Tryz.func160, Tryz.ntmps160
          go_wp2_with (first | (go_at_call 166; with_reducible refine Calls.mono (n1.out _) ?_; rintro e w1 ⟨rfl, hw⟩; rw [hw]; clear hw w1) | (go_at_call 181; with_reducible refine Calls.mono (n2.out _) ?_; rintro e w1 ⟨rfl, hw⟩; rw [hw]; clear hw w1) | fail)
          go_ret
          exact ⟨by rw [HR.out]; rfl, HB.out⟩
    · skip
      have HR : Hid (sessionFine ⟨t, n, s⟩ = false) := by show _ = _; simp [sessionFine, hV]
      clear hT hV
      go_enter Tryz.func160, Tryz.ntmps160
      go_wp2_with (first | (go_at_call 166; with_reducible refine Calls.mono (n1.out _) ?_; rintro e w1 ⟨rfl, hw⟩; rw [hw]; clear hw w1) | (go_at_call 181; with_reducible refine Calls.mono (n2.out _) ?_; rintro e w1 ⟨rfl, hw⟩; rw [hw]; clear hw w1) | fail)
      go_ret
      exact ⟨by rw [HR.out]; rfl, HB.out⟩
  · rw [hT] at m1
    rw [hV] at m2
    have n1 := hid m1
    have n2 := hid m2
    clear m1 m2
    by_cases h4 : (s.size : Int) ≤ 40
    · by_cases h0 : 0 < n
      · have hne : ¬ n = 0 := by omega
        have HR : Hid (sessionFine ⟨t, n, s⟩ = true) := by show _ = _; simp [sessionFine, hT, hV, h4, hne]
        clear hT hV
        go_enter Tryz.func160, Tryz.ntmps160
        go_wp2_with (first | (go_at_call 166; with_reducible refine Calls.mono (n1.out _) ?_; rintro e w1 ⟨rfl, hw⟩; rw [hw]; clear hw w1) | (go_at_call 181; with_reducible refine Calls.mono (n2.out _) ?_; rintro e w1 ⟨rfl, hw⟩; rw [hw]; clear hw w1) | fail)
        go_ret
        exact ⟨by rw [HR.out]; rfl, HB.out⟩
      · have HN0 : Hid (n = 0) := by show _ = _; have := (within_iff.1 hV).1; omega
        by_cases y : s.size = 0
        · rw [decide_eq_true y] at hse
          have HR : Hid (sessionFine ⟨t, n, s⟩ = true) := by show _ = _; simp [sessionFine, hT, hV, y]
          clear hT hV
          go_enter Tryz.func160, Tryz.ntmps160
          go_wp2_with (first | (go_at_call 166; with_reducible refine Calls.mono (n1.out _) ?_; rintro e w1 ⟨rfl, hw⟩; rw [hw]; clear hw w1) | (go_at_call 181; with_reducible refine Calls.mono (n2.out _) ?_; rintro e w1 ⟨rfl, hw⟩; rw [hw]; clear hw w1) | fail)
          go_ret
          exact ⟨by rw [HR.out]; rfl, HB.out⟩
        · rw [decide_eq_false y] at hse
          have HR : Hid (sessionFine ⟨t, n, s⟩ = false) := by show _ = _; simp [sessionFine, HN0.out, y]
          clear hT hV
          go_enter Tryz.func160, Tryz.ntmps160
          go_wp2_with (first | (go_at_call 166; with_reducible refine Calls.mono (n1.out _) ?_; rintro e w1 ⟨rfl, hw⟩; rw [hw]; clear hw w1) | (go_at_call 181; with_reducible refine Calls.mono (n2.out _) ?_; rintro e w1 ⟨rfl, hw⟩; rw [hw]; clear hw w1) | fail)
          go_ret
          exact ⟨by rw [HR.out]; rfl, HB.out⟩
    · skip
      have HR : Hid (sessionFine ⟨t, n, s⟩ = false) := by show _ = _; simp [sessionFine, h4]
      clear hT hV
      go_enter Tryz.func160, Tryz.ntmps160
      go_wp2_with (first | (go_at_call 166; with_reducible refine Calls.mono (n1.out _) ?_; rintro e w1 ⟨rfl, hw⟩; rw [hw]; clear hw w1) | (go_at_call 181; with_reducible refine Calls.mono (n2.out _) ?_; rintro e w1 ⟨rfl, hw⟩; rw [hw]; clear hw w1) | fail)
      go_ret
      exact ⟨by rw [HR.out]; rfl, HB.out⟩
end Go.Proofs.YtihgkocfgjihhaaGreatDoor
