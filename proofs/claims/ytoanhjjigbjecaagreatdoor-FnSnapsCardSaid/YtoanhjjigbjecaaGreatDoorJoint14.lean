/-
  The walk of spec.CommandOk: what it answers.
-/
import Derived.Test.YtoanhjjigbjecaaGreatDoorJoint1
import Derived.Test.YtoanhjjigbjecaaGreatDoorJoint12
import Derived.Deep.QuietTactic
import Derived.BigQuiet
import Derived.Lib.QuietBelow
import Derived.Test.YtoanhjjigbjecaaGreatDoorRows
namespace Go.Proofs.YtoanhjjigbjecaaGreatDoor
open Go.RowKit

set_option maxRecDepth 1000000 in
set_option maxHeartbeats 2000000 in
theorem specCommandOk_any (d : CommandD) (w : World) :
    Calls Tryz.prog 83 #[.agg #[.int .i64 d.op, .int .i64 d.token, .int .i64 d.seq, .string d.key, .string d.val, .int .i64 d.ver]] w fun e w' => e = .returned (.bool (commandOk d)) ∧ Below w.heap.size w w' := by
  obtain ⟨op, tok, seq, key, val, ver⟩ := d
  dsimp only
  have HB := hid (below_more (Below.refl w.heap.size w) (.cells #[.int .i64 op, .int .i64 tok, .int .i64 seq, .string key, .string val, .int .i64 ver] 94))
  have hx : BlockIs (w.alloc (.cells #[.int .i64 op, .int .i64 tok, .int .i64 seq, .string key, .string val, .int .i64 ver] 94)) w.heap.size 94 [.int .i64 op, .int .i64 tok, .int .i64 seq, .string key, .string val, .int .i64 ver] := heap_alloc_new w _
  obtain ⟨W, hW⟩ : ∃ W, w.alloc (.cells #[.int .i64 op, .int .i64 tok, .int .i64 seq, .string key, .string val, .int .i64 ver] 94) = W := ⟨_, rfl⟩
  rw [hW] at HB hx
  have c0 := hx.cell (j := 0) rfl
  have c1 := hx.cell (j := 1) rfl
  have c2 := hx.cell (j := 2) rfl
  have c3 := hx.cell (j := 3) rfl
  have c4 := hx.cell (j := 4) rfl
  have c5 := hx.cell (j := 5) rfl
  clear hx
  have hk := empty_text key
  have hv := empty_text val
  have cN := hid (fun x a b w => l01In_any x a b w)
  by_cases h1 : 0 ≤ tok ∧ tok ≤ 1000000
  rotate_left
  · have e1 := within_no (x := tok) (a := 0) (b := 1000000) (by omega)
    have HR : Hid (commandOk ⟨op, tok, seq, key, val, ver⟩ = false) := by show _ = _; simp [commandOk, e1]
    go_enter Tryz.func83, Tryz.ntmps83
    go_wp2_with (first | (go_at_call 47; refine (cN.out _ _ _ _).mono ?_; rintro e w1 ⟨rfl, hw⟩; rw [hw]; clear hw w1) | fail)
    go_ret
    exact ⟨by rw [HR.out]; rfl, HB.out⟩
  have e1 := within_yes (x := tok) (a := 0) (b := 1000000) h1.1 h1.2
  by_cases h2 : 0 ≤ seq ∧ seq ≤ 1000000
  rotate_left
  · have e2 := within_no (x := seq) (a := 0) (b := 1000000) (by omega)
    have HR : Hid (commandOk ⟨op, tok, seq, key, val, ver⟩ = false) := by show _ = _; simp [commandOk, e1, e2]
    go_enter Tryz.func83, Tryz.ntmps83
    go_wp2_with (first | (go_at_call 47; refine (cN.out _ _ _ _).mono ?_; rintro e w1 ⟨rfl, hw⟩; rw [hw]; clear hw w1) | fail)
    go_ret
    exact ⟨by rw [HR.out]; rfl, HB.out⟩
  have e2 := within_yes (x := seq) (a := 0) (b := 1000000) h2.1 h2.2
  by_cases h3 : 1 ≤ op ∧ op ≤ 5
  rotate_left
  · have e3 := within_no (x := op) (a := 1) (b := 5) (by omega)
    have HR : Hid (commandOk ⟨op, tok, seq, key, val, ver⟩ = false) := by show _ = _; simp [commandOk, e1, e2, e3]
    go_enter Tryz.func83, Tryz.ntmps83
    go_wp2_with (first | (go_at_call 47; refine (cN.out _ _ _ _).mono ?_; rintro e w1 ⟨rfl, hw⟩; rw [hw]; clear hw w1) | fail)
    go_ret
    exact ⟨by rw [HR.out]; rfl, HB.out⟩
  have e3 := within_yes (x := op) (a := 1) (b := 5) h3.1 h3.2
  by_cases hop : op = 1
  · subst hop
    by_cases t0 : tok = 0
    rotate_left
    · skip
      have HR : Hid (commandOk ⟨1, tok, seq, key, val, ver⟩ = false) := by show _ = _; simp [commandOk, e1, e2, e3, t0]
      go_enter Tryz.func83, Tryz.ntmps83
      go_wp2_with (first | (go_at_call 47; refine (cN.out _ _ _ _).mono ?_; rintro e w1 ⟨rfl, hw⟩; rw [hw]; clear hw w1) | fail)
      go_ret
      exact ⟨by rw [HR.out]; rfl, HB.out⟩
    subst t0
    by_cases q0 : seq = 0
    rotate_left
    · skip
      have HR : Hid (commandOk ⟨1, 0, seq, key, val, ver⟩ = false) := by show _ = _; simp [commandOk, e1, e2, e3, q0]
      go_enter Tryz.func83, Tryz.ntmps83
      go_wp2_with (first | (go_at_call 47; refine (cN.out _ _ _ _).mono ?_; rintro e w1 ⟨rfl, hw⟩; rw [hw]; clear hw w1) | fail)
      go_ret
      exact ⟨by rw [HR.out]; rfl, HB.out⟩
    subst q0
    by_cases y0 : key.size = 0
    rotate_left
    · rw [decide_eq_false y0] at hk
      have HR : Hid (commandOk ⟨1, 0, 0, key, val, ver⟩ = false) := by show _ = _; simp [commandOk, e1, e3, y0]
      go_enter Tryz.func83, Tryz.ntmps83
      go_wp2_with (first | (go_at_call 47; refine (cN.out _ _ _ _).mono ?_; rintro e w1 ⟨rfl, hw⟩; rw [hw]; clear hw w1) | fail)
      go_ret
      exact ⟨by rw [HR.out]; rfl, HB.out⟩
    rw [decide_eq_true y0] at hk
    by_cases v0 : val.size = 0
    rotate_left
    · rw [decide_eq_false v0] at hv
      have HR : Hid (commandOk ⟨1, 0, 0, key, val, ver⟩ = false) := by show _ = _; simp [commandOk, e1, e3, v0]
      go_enter Tryz.func83, Tryz.ntmps83
      go_wp2_with (first | (go_at_call 47; refine (cN.out _ _ _ _).mono ?_; rintro e w1 ⟨rfl, hw⟩; rw [hw]; clear hw w1) | fail)
      go_ret
      exact ⟨by rw [HR.out]; rfl, HB.out⟩
    rw [decide_eq_true v0] at hv
    have HR : Hid (commandOk ⟨1, 0, 0, key, val, ver⟩ = decide (ver = 0)) := by show _ = _; simp [commandOk, e1, e3, y0, v0]
    go_enter Tryz.func83, Tryz.ntmps83
    go_wp2_with (first | (go_at_call 47; refine (cN.out _ _ _ _).mono ?_; rintro e w1 ⟨rfl, hw⟩; rw [hw]; clear hw w1) | fail)
    go_ret
    exact ⟨by rw [HR.out]; rfl, HB.out⟩
  by_cases hkl : 1 ≤ (key.size : Int) ∧ (key.size : Int) ≤ 8
  rotate_left
  · have e4 := within_no (x := (key.size : Int)) (a := 1) (b := 8) (by omega)
    have HR : Hid (commandOk ⟨op, tok, seq, key, val, ver⟩ = false) := by show _ = _; simp [commandOk, e1, e2, e3, hop, e4]
    go_enter Tryz.func83, Tryz.ntmps83
    go_wp2_with (first | (go_at_call 47; refine (cN.out _ _ _ _).mono ?_; rintro e w1 ⟨rfl, hw⟩; rw [hw]; clear hw w1) | fail)
    go_ret
    exact ⟨by rw [HR.out]; rfl, HB.out⟩
  have e4 := within_yes (x := (key.size : Int)) (a := 1) (b := 8) hkl.1 hkl.2
  by_cases hvl : 20 < (val.size : Int)
  · have n20 : ¬ (val.size : Int) ≤ 20 := by omega
    have HR : Hid (commandOk ⟨op, tok, seq, key, val, ver⟩ = false) := by show _ = _; simp [commandOk, e1, e2, e3, hop, e4, n20]
    go_enter Tryz.func83, Tryz.ntmps83
    go_wp2_with (first | (go_at_call 47; refine (cN.out _ _ _ _).mono ?_; rintro e w1 ⟨rfl, hw⟩; rw [hw]; clear hw w1) | fail)
    go_ret
    exact ⟨by rw [HR.out]; rfl, HB.out⟩
  have y20 : (val.size : Int) ≤ 20 := by omega
  by_cases op2 : op = 2
  · subst op2
    have HR : Hid (commandOk ⟨2, tok, seq, key, val, ver⟩ = decide (ver = 0)) := by show _ = _; simp [commandOk, e1, e2, e3, e4, y20]
    go_enter Tryz.func83, Tryz.ntmps83
    go_wp2_with (first | (go_at_call 47; refine (cN.out _ _ _ _).mono ?_; rintro e w1 ⟨rfl, hw⟩; rw [hw]; clear hw w1) | fail)
    go_ret
    exact ⟨by rw [HR.out]; rfl, HB.out⟩
  by_cases op5 : op = 5
  · subst op5
    have HR : Hid (commandOk ⟨5, tok, seq, key, val, ver⟩ = within ver 1 1000000000) := by show _ = _; simp [commandOk, e1, e2, e3, e4, y20]
    go_enter Tryz.func83, Tryz.ntmps83
    go_wp2_with (first | (go_at_call 47; refine (cN.out _ _ _ _).mono ?_; rintro e w1 ⟨rfl, hw⟩; rw [hw]; clear hw w1) | fail)
    go_ret
    exact ⟨by rw [HR.out]; rfl, HB.out⟩
  by_cases v0 : val.size = 0
  rotate_left
  · rw [decide_eq_false v0] at hv
    have HR : Hid (commandOk ⟨op, tok, seq, key, val, ver⟩ = false) := by show _ = _; simp [commandOk, e1, e2, e3, e4, y20, hop, op2, op5, v0]
    go_enter Tryz.func83, Tryz.ntmps83
    go_wp2_with (first | (go_at_call 47; refine (cN.out _ _ _ _).mono ?_; rintro e w1 ⟨rfl, hw⟩; rw [hw]; clear hw w1) | fail)
    go_ret
    exact ⟨by rw [HR.out]; rfl, HB.out⟩
  rw [decide_eq_true v0] at hv
  have HR : Hid (commandOk ⟨op, tok, seq, key, val, ver⟩ = decide (ver = 0)) := by show _ = _; simp [commandOk, e1, e2, e3, e4, hop, op2, op5, v0]
  go_enter Tryz.func83, Tryz.ntmps83
  go_wp2_with (first | (go_at_call 47; refine (cN.out _ _ _ _).mono ?_; rintro e w1 ⟨rfl, hw⟩; rw [hw]; clear hw w1) | fail)
  go_ret
  exact ⟨by rw [HR.out]; rfl, HB.out⟩
end Go.Proofs.YtoanhjjigbjecaaGreatDoor
