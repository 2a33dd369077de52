/-
  Commands as data; the walk of spec.CommandOk: what a command that is right keeps to.
-/
import Derived.Test.YtjkgjnpifdafaaaJoint10
import Derived.Test.YtjkgjnpifdafaaaJoint1
import Derived.WalkSmall
import Derived.WalkKit
namespace Go.Proofs.Ytjkgjnpifdafaaa
open Go.RowKit

structure CmdD where
  op : Int
  tok : Int
  seq : Int
  key : ByteArray
  val : ByteArray
  ver : Int
def CmdD.value (d : CmdD) : Value := .agg #[.int .i64 d.op, .int .i64 d.tok, .int .i64 d.seq, .string d.key, .string d.val, .int .i64 d.ver]
def CmdD.cells (d : CmdD) : List Value := [.int .i64 d.op, .int .i64 d.tok, .int .i64 d.seq, .string d.key, .string d.val, .int .i64 d.ver]
/-- what a right command keeps to (not all that makes it right) -/
def CmdD.Sound (d : CmdD) : Prop := (1 ≤ d.op ∧ d.op ≤ 5) ∧ (0 ≤ d.tok ∧ d.tok ≤ 1000000) ∧ (0 ≤ d.seq ∧ d.seq ≤ 1000000) ∧ d.key.size ≤ 8 ∧ d.val.size ≤ 20 ∧ (0 ≤ d.ver ∧ d.ver ≤ 1000000000)

theorem no_text (s : ByteArray) : (s.toList == []) = decide (s.size = 0) := by
  rw [ByteArray.toList_eq]
  by_cases h : s.size = 0
  · have : s.data.toList = [] := List.eq_nil_of_length_eq_zero (by simpa using h)
    simp [this, h]
  · have : (s.data.toList == []) = false := by
      rw [beq_eq_false_iff_ne]
      intro e
      exact h (by simpa using congrArg List.length e)
    rw [this]
    simp [h]

set_option maxRecDepth 1000000 in
set_option maxHeartbeats 2000000 in
theorem commandOk_any (d : CmdD) (w : World) :
    Calls Try.prog 78 #[.agg #[.int .i64 d.op, .int .i64 d.tok, .int .i64 d.seq, .string d.key, .string d.val, .int .i64 d.ver]] w fun e w' => (∃ b, e = .returned (.bool b) ∧ (b = true → d.Sound)) ∧ Below w.heap.size w w' := by
  obtain ⟨op, tok, seq, key, val, ver⟩ := d
  dsimp only
  have HB := hid (below_more (Below.refl w.heap.size w) (.cells #[.int .i64 op, .int .i64 tok, .int .i64 seq, .string key, .string val, .int .i64 ver] 100))
  have hx : BlockIs (w.alloc (.cells #[.int .i64 op, .int .i64 tok, .int .i64 seq, .string key, .string val, .int .i64 ver] 100)) w.heap.size 100 [.int .i64 op, .int .i64 tok, .int .i64 seq, .string key, .string val, .int .i64 ver] := heap_alloc_new w _
  obtain ⟨W, hW⟩ : ∃ W, w.alloc (.cells #[.int .i64 op, .int .i64 tok, .int .i64 seq, .string key, .string val, .int .i64 ver] 100) = W := ⟨_, rfl⟩
  rw [hW] at HB hx
  have c0 := hx.cell (j := 0) rfl
  have c1 := hx.cell (j := 1) rfl
  have c2 := hx.cell (j := 2) rfl
  have c3 := hx.cell (j := 3) rfl
  have c4 := hx.cell (j := 4) rfl
  have c5 := hx.cell (j := 5) rfl
  have cN := hid (fun x a b w => l01In_any x a b w)
  clear hx
  by_cases h1 : 0 ≤ tok ∧ tok ≤ 1000000
  rotate_left
  · have e1 : within tok 0 1000000 = false := within_no (by omega)
    go_enter Try.func78, Try.ntmps78
    go_wp2_with (go_at_call 37; refine (cN.out _ _ _ _).mono ?_; rintro e w1 ⟨rfl, hw⟩; rw [hw]; clear hw w1)
    go_ret
    exact ⟨⟨false, rfl, fun h => by cases h⟩, HB.out⟩
  have e1 : within tok 0 1000000 = true := within_yes h1.1 h1.2
  by_cases h2 : 0 ≤ seq ∧ seq ≤ 1000000
  rotate_left
  · have e2 : within seq 0 1000000 = false := within_no (by omega)
    go_enter Try.func78, Try.ntmps78
    go_wp2_with (go_at_call 37; refine (cN.out _ _ _ _).mono ?_; rintro e w1 ⟨rfl, hw⟩; rw [hw]; clear hw w1)
    go_ret
    exact ⟨⟨false, rfl, fun h => by cases h⟩, HB.out⟩
  have e2 : within seq 0 1000000 = true := within_yes h2.1 h2.2
  by_cases h3 : 1 ≤ op ∧ op ≤ 5
  rotate_left
  · have e3 : within op 1 5 = false := within_no (by omega)
    go_enter Try.func78, Try.ntmps78
    go_wp2_with (go_at_call 37; refine (cN.out _ _ _ _).mono ?_; rintro e w1 ⟨rfl, hw⟩; rw [hw]; clear hw w1)
    go_ret
    exact ⟨⟨false, rfl, fun h => by cases h⟩, HB.out⟩
  have e3 : within op 1 5 = true := within_yes h3.1 h3.2
  have HS : Hid (key.size ≤ 8 → val.size ≤ 20 → (0 ≤ ver ∧ ver ≤ 1000000000) → CmdD.Sound ⟨op, tok, seq, key, val, ver⟩) := fun a b c => ⟨h3, h1, h2, a, b, c⟩
  have hk := no_text key
  have hv := no_text val
  by_cases hop : op = 1
  · subst hop
    by_cases t0 : tok = 0
    rotate_left
    · skip
      go_enter Try.func78, Try.ntmps78
      go_wp2_with (go_at_call 37; refine (cN.out _ _ _ _).mono ?_; rintro e w1 ⟨rfl, hw⟩; rw [hw]; clear hw w1)
      go_ret
      exact ⟨⟨false, rfl, fun h => by cases h⟩, HB.out⟩
    subst t0
    by_cases q0 : seq = 0
    rotate_left
    · skip
      go_enter Try.func78, Try.ntmps78
      go_wp2_with (go_at_call 37; refine (cN.out _ _ _ _).mono ?_; rintro e w1 ⟨rfl, hw⟩; rw [hw]; clear hw w1)
      go_ret
      exact ⟨⟨false, rfl, fun h => by cases h⟩, HB.out⟩
    subst q0
    by_cases y0 : key.size = 0
    rotate_left
    · rw [decide_eq_false y0] at hk
      go_enter Try.func78, Try.ntmps78
      go_wp2_with (go_at_call 37; refine (cN.out _ _ _ _).mono ?_; rintro e w1 ⟨rfl, hw⟩; rw [hw]; clear hw w1)
      go_ret
      exact ⟨⟨false, rfl, fun h => by cases h⟩, HB.out⟩
    rw [decide_eq_true y0] at hk
    by_cases v0 : val.size = 0
    rotate_left
    · rw [decide_eq_false v0] at hv
      go_enter Try.func78, Try.ntmps78
      go_wp2_with (go_at_call 37; refine (cN.out _ _ _ _).mono ?_; rintro e w1 ⟨rfl, hw⟩; rw [hw]; clear hw w1)
      go_ret
      exact ⟨⟨false, rfl, fun h => by cases h⟩, HB.out⟩
    rw [decide_eq_true v0] at hv
    go_enter Try.func78, Try.ntmps78
    go_wp2_with (go_at_call 37; refine (cN.out _ _ _ _).mono ?_; rintro e w1 ⟨rfl, hw⟩; rw [hw]; clear hw w1)
    go_ret
    refine ⟨⟨decide (ver = 0), by rfl, fun h => HS.out (by omega) (by omega) ?_⟩, HB.out⟩
    have : ver = 0 := by simpa using h
    omega
  by_cases hkl : 1 ≤ (key.size : Int) ∧ (key.size : Int) ≤ 8
  rotate_left
  · have e4 : within (key.size : Int) 1 8 = false := within_no (by omega)
    go_enter Try.func78, Try.ntmps78
    go_wp2_with (go_at_call 37; refine (cN.out _ _ _ _).mono ?_; rintro e w1 ⟨rfl, hw⟩; rw [hw]; clear hw w1)
    go_ret
    exact ⟨⟨false, rfl, fun h => by cases h⟩, HB.out⟩
  have e4 : within (key.size : Int) 1 8 = true := within_yes hkl.1 hkl.2
  by_cases hvl : 20 < (val.size : Int)
  · skip
    go_enter Try.func78, Try.ntmps78
    go_wp2_with (go_at_call 37; refine (cN.out _ _ _ _).mono ?_; rintro e w1 ⟨rfl, hw⟩; rw [hw]; clear hw w1)
    go_ret
    exact ⟨⟨false, rfl, fun h => by cases h⟩, HB.out⟩
  by_cases op2 : op = 2
  · subst op2
    go_enter Try.func78, Try.ntmps78
    go_wp2_with (go_at_call 37; refine (cN.out _ _ _ _).mono ?_; rintro e w1 ⟨rfl, hw⟩; rw [hw]; clear hw w1)
    go_ret
    refine ⟨⟨decide (ver = 0), by rfl, fun h => HS.out (by omega) (by omega) ?_⟩, HB.out⟩
    have : ver = 0 := by simpa using h
    omega
  by_cases op5 : op = 5
  · subst op5
    go_enter Try.func78, Try.ntmps78
    go_wp2_with (go_at_call 37; refine (cN.out _ _ _ _).mono ?_; rintro e w1 ⟨rfl, hw⟩; rw [hw]; clear hw w1)
    go_ret
    refine ⟨⟨within ver 1 1000000000, by rfl, fun h => HS.out (by omega) (by omega) ?_⟩, HB.out⟩
    have := within_iff.1 h
    omega
  by_cases v0 : val.size = 0
  rotate_left
  · rw [decide_eq_false v0] at hv
    go_enter Try.func78, Try.ntmps78
    go_wp2_with (go_at_call 37; refine (cN.out _ _ _ _).mono ?_; rintro e w1 ⟨rfl, hw⟩; rw [hw]; clear hw w1)
    go_ret
    exact ⟨⟨false, rfl, fun h => by cases h⟩, HB.out⟩
  rw [decide_eq_true v0] at hv
  go_enter Try.func78, Try.ntmps78
  go_wp2_with (go_at_call 37; refine (cN.out _ _ _ _).mono ?_; rintro e w1 ⟨rfl, hw⟩; rw [hw]; clear hw w1)
  go_ret
  refine ⟨⟨decide (ver = 0), by rfl, fun h => HS.out (by omega) (by omega) ?_⟩, HB.out⟩
  have : ver = 0 := by simpa using h
  omega
end Go.Proofs.Ytjkgjnpifdafaaa
