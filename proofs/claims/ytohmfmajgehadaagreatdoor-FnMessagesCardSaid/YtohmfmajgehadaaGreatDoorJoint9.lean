/-
  Commands as data; the walk of spec.CommandOk: what a command that is right keeps to.
  The walk of spec.l01Var: what it answers.
-/
import Derived.Test.YtohmfmajgehadaaGreatDoorJoint6
import Derived.Test.YtohmfmajgehadaaGreatDoorJoint1
import Derived.WalkSmall
import Derived.WalkKit
import Derived.Test.YtohmfmajgehadaaGreatDoorRows
namespace Go.Proofs.YtohmfmajgehadaaGreatDoor
open Go.RowKit

structure CmdD where
  op : Int
  tok : Int
  seq : Int
  key : ByteArray
  val : ByteArray
  ver : Int
def CmdD.value (d : CmdD) : Value := .agg #[.int .i64 d.op, .int .i64 d.tok, .int .i64 d.seq, .string d.key, .string d.val, .int .i64 d.ver]
def CmdD.cells (d : CmdD) : List Value := [.int .i64 d.op, .int .i64 d.tok, .int .i64 d.seq, .string d.key, .string d.val, .int .i64 d.ver]
/-- what a right command keeps to (not all that makes it right) -/
def CmdD.Sound (d : CmdD) : Prop := (1 ≤ d.op ∧ d.op ≤ 5) ∧ (0 ≤ d.tok ∧ d.tok ≤ 1000000) ∧ (0 ≤ d.seq ∧ d.seq ≤ 1000000) ∧ d.key.size ≤ 8 ∧ d.val.size ≤ 20 ∧ (0 ≤ d.ver ∧ d.ver ≤ 1000000000)

theorem no_text (s : ByteArray) : (s.toList == []) = decide (s.size = 0) := by
  rw [ByteArray.toList_eq]
  by_cases h : s.size = 0
  · have : s.data.toList = [] := List.eq_nil_of_length_eq_zero (by simpa using h)
    simp [this, h]
  · have : (s.data.toList == []) = false := by
      rw [beq_eq_false_iff_ne]
      intro e
      exact h (by simpa using congrArg List.length e)
    rw [this]
    simp [h]

set_option maxRecDepth 1000000 in
set_option maxHeartbeats 2000000 in
theorem commandOk_any (d : CmdD) (w : World) :
    Calls Tryz.prog 57 #[.agg #[.int .i64 d.op, .int .i64 d.tok, .int .i64 d.seq, .string d.key, .string d.val, .int .i64 d.ver]] w fun e w' => (∃ b, e = .returned (.bool b) ∧ (b = true → d.Sound)) ∧ Below w.heap.size w w' := by
  obtain ⟨op, tok, seq, key, val, ver⟩ := d
  dsimp only
  have HB := hid (below_more (Below.refl w.heap.size w) (.cells #[.int .i64 op, .int .i64 tok, .int .i64 seq, .string key, .string val, .int .i64 ver] 53))
  have hx : BlockIs (w.alloc (.cells #[.int .i64 op, .int .i64 tok, .int .i64 seq, .string key, .string val, .int .i64 ver] 53)) w.heap.size 53 [.int .i64 op, .int .i64 tok, .int .i64 seq, .string key, .string val, .int .i64 ver] := heap_alloc_new w _
  obtain ⟨W, hW⟩ : ∃ W, w.alloc (.cells #[.int .i64 op, .int .i64 tok, .int .i64 seq, .string key, .string val, .int .i64 ver] 53) = W := ⟨_, rfl⟩
  rw [hW] at HB hx
  have c0 := hx.cell (j := 0) rfl
  have c1 := hx.cell (j := 1) rfl
  have c2 := hx.cell (j := 2) rfl
  have c3 := hx.cell (j := 3) rfl
  have c4 := hx.cell (j := 4) rfl
  have c5 := hx.cell (j := 5) rfl
  have cN := hid (fun x a b w => l01In_any x a b w)
  clear hx
  by_cases h1 : 0 ≤ tok ∧ tok ≤ 1000000
  rotate_left
  · have e1 : within tok 0 1000000 = false := within_no (by omega)
    go_enter Tryz.func57, Tryz.ntmps57
    go_wp2_with (go_at_call 39; refine (cN.out _ _ _ _).mono ?_; rintro e w1 ⟨rfl, hw⟩; rw [hw]; clear hw w1)
    go_ret
    exact ⟨⟨false, rfl, fun h => by cases h⟩, HB.out⟩
  have e1 : within tok 0 1000000 = true := within_yes h1.1 h1.2
  by_cases h2 : 0 ≤ seq ∧ seq ≤ 1000000
  rotate_left
  · have e2 : within seq 0 1000000 = false := within_no (by omega)
    go_enter Tryz.func57, Tryz.ntmps57
    go_wp2_with (go_at_call 39; refine (cN.out _ _ _ _).mono ?_; rintro e w1 ⟨rfl, hw⟩; rw [hw]; clear hw w1)
    go_ret
    exact ⟨⟨false, rfl, fun h => by cases h⟩, HB.out⟩
  have e2 : within seq 0 1000000 = true := within_yes h2.1 h2.2
  by_cases h3 : 1 ≤ op ∧ op ≤ 5
  rotate_left
  · have e3 : within op 1 5 = false := within_no (by omega)
    go_enter Tryz.func57, Tryz.ntmps57
    go_wp2_with (go_at_call 39; refine (cN.out _ _ _ _).mono ?_; rintro e w1 ⟨rfl, hw⟩; rw [hw]; clear hw w1)
    go_ret
    exact ⟨⟨false, rfl, fun h => by cases h⟩, HB.out⟩
  have e3 : within op 1 5 = true := within_yes h3.1 h3.2
  have HS : Hid (key.size ≤ 8 → val.size ≤ 20 → (0 ≤ ver ∧ ver ≤ 1000000000) → CmdD.Sound ⟨op, tok, seq, key, val, ver⟩) := fun a b c => ⟨h3, h1, h2, a, b, c⟩
  have hk := no_text key
  have hv := no_text val
  by_cases hop : op = 1
  · subst hop
    by_cases t0 : tok = 0
    rotate_left
    · skip
      go_enter Tryz.func57, Tryz.ntmps57
      go_wp2_with (go_at_call 39; refine (cN.out _ _ _ _).mono ?_; rintro e w1 ⟨rfl, hw⟩; rw [hw]; clear hw w1)
      go_ret
      exact ⟨⟨false, rfl, fun h => by cases h⟩, HB.out⟩
    subst t0
    by_cases q0 : seq = 0
    rotate_left
    · skip
      go_enter Tryz.func57, Tryz.ntmps57
      go_wp2_with (go_at_call 39; refine (cN.out _ _ _ _).mono ?_; rintro e w1 ⟨rfl, hw⟩; rw [hw]; clear hw w1)
      go_ret
      exact ⟨⟨false, rfl, fun h => by cases h⟩, HB.out⟩
    subst q0
    by_cases y0 : key.size = 0
    rotate_left
    · rw [decide_eq_false y0] at hk
      go_enter Tryz.func57, Tryz.ntmps57
      go_wp2_with (go_at_call 39; refine (cN.out _ _ _ _).mono ?_; rintro e w1 ⟨rfl, hw⟩; rw [hw]; clear hw w1)
      go_ret
      exact ⟨⟨false, rfl, fun h => by cases h⟩, HB.out⟩
    rw [decide_eq_true y0] at hk
    by_cases v0 : val.size = 0
    rotate_left
    · rw [decide_eq_false v0] at hv
      go_enter Tryz.func57, Tryz.ntmps57
      go_wp2_with (go_at_call 39; refine (cN.out _ _ _ _).mono ?_; rintro e w1 ⟨rfl, hw⟩; rw [hw]; clear hw w1)
      go_ret
      exact ⟨⟨false, rfl, fun h => by cases h⟩, HB.out⟩
    rw [decide_eq_true v0] at hv
    go_enter Tryz.func57, Tryz.ntmps57
    go_wp2_with (go_at_call 39; refine (cN.out _ _ _ _).mono ?_; rintro e w1 ⟨rfl, hw⟩; rw [hw]; clear hw w1)
    go_ret
    refine ⟨⟨decide (ver = 0), by rfl, fun h => HS.out (by omega) (by omega) ?_⟩, HB.out⟩
    have : ver = 0 := by simpa using h
    omega
  by_cases hkl : 1 ≤ (key.size : Int) ∧ (key.size : Int) ≤ 8
  rotate_left
  · have e4 : within (key.size : Int) 1 8 = false := within_no (by omega)
    go_enter Tryz.func57, Tryz.ntmps57
    go_wp2_with (go_at_call 39; refine (cN.out _ _ _ _).mono ?_; rintro e w1 ⟨rfl, hw⟩; rw [hw]; clear hw w1)
    go_ret
    exact ⟨⟨false, rfl, fun h => by cases h⟩, HB.out⟩
  have e4 : within (key.size : Int) 1 8 = true := within_yes hkl.1 hkl.2
  by_cases hvl : 20 < (val.size : Int)
  · skip
    go_enter Tryz.func57, Tryz.ntmps57
    go_wp2_with (go_at_call 39; refine (cN.out _ _ _ _).mono ?_; rintro e w1 ⟨rfl, hw⟩; rw [hw]; clear hw w1)
    go_ret
    exact ⟨⟨false, rfl, fun h => by cases h⟩, HB.out⟩
  by_cases op2 : op = 2
  · subst op2
    go_enter Tryz.func57, Tryz.ntmps57
    go_wp2_with (go_at_call 39; refine (cN.out _ _ _ _).mono ?_; rintro e w1 ⟨rfl, hw⟩; rw [hw]; clear hw w1)
    go_ret
    refine ⟨⟨decide (ver = 0), by rfl, fun h => HS.out (by omega) (by omega) ?_⟩, HB.out⟩
    have : ver = 0 := by simpa using h
    omega
  by_cases op5 : op = 5
  · subst op5
    go_enter Tryz.func57, Tryz.ntmps57
    go_wp2_with (go_at_call 39; refine (cN.out _ _ _ _).mono ?_; rintro e w1 ⟨rfl, hw⟩; rw [hw]; clear hw w1)
    go_ret
    refine ⟨⟨within ver 1 1000000000, by rfl, fun h => HS.out (by omega) (by omega) ?_⟩, HB.out⟩
    have := within_iff.1 h
    omega
  by_cases v0 : val.size = 0
  rotate_left
  · rw [decide_eq_false v0] at hv
    go_enter Tryz.func57, Tryz.ntmps57
    go_wp2_with (go_at_call 39; refine (cN.out _ _ _ _).mono ?_; rintro e w1 ⟨rfl, hw⟩; rw [hw]; clear hw w1)
    go_ret
    exact ⟨⟨false, rfl, fun h => by cases h⟩, HB.out⟩
  rw [decide_eq_true v0] at hv
  go_enter Tryz.func57, Tryz.ntmps57
  go_wp2_with (go_at_call 39; refine (cN.out _ _ _ _).mono ?_; rintro e w1 ⟨rfl, hw⟩; rw [hw]; clear hw w1)
  go_ret
  refine ⟨⟨decide (ver = 0), by rfl, fun h => HS.out (by omega) (by omega) ?_⟩, HB.out⟩
  have : ver = 0 := by simpa using h
  omega
end Go.Proofs.YtohmfmajgehadaaGreatDoor

namespace Go.Proofs.YtohmfmajgehadaaGreatDoor
open Go.RowKit

theorem varS_info5 : (Tryz.prog.info? 5).map (fun i => (i.zero, i.size, i.bytes)) = some (some (.int .u8 0), 1, 1) := by kernel_rfl

set_option maxHeartbeats 400000 in
set_option maxRecDepth 1000000 in
theorem l01Var_any (n : Nat) (hn : n ≤ 1000000000000) (w : World) :
    Calls Tryz.prog 58 #[.int .i64 n] w fun e w' => e = .returned (.string ⟨(vb n).toArray⟩) ∧ Below w.heap.size w w' := by
  obtain ⟨i0, hi, hz0, hz1, hz2⟩ := info_parts varS_info5
  go_enter Tryz.func58, Tryz.ntmps58
  go_wp2
  go_loopw [0, 3] (fun x v wr => ∃ (m : Nat) (acc : List UInt8), m ≤ n ∧ x = .int .i64 m ∧ acc ++ vb m = vb n ∧ wr.ownsRow w.heap.size 5 1 v acc.length (cs acc) ∧ Below w.heap.size w wr) (fun x _ _ => (intOf x).toNat)
  case atStart => exact ⟨n, [], Nat.le_refl _, rfl, rfl, World.ownsRow_made w #[] 0 (Nat.le_refl _) (Nat.zero_le _) rfl, (Below.refl _ _).alloc (Nat.le_refl _) _⟩
  case round =>
    obtain ⟨m, acc, hm, rfl, hacc, hown, hb⟩ := hrel
    have hlen : acc.length + (vb m).length ≤ n + 1 := by rw [← List.length_append, hacc]; exact vb_le n
    have hp := vb_pos m
    have HA : Hid (acc ++ vb m = vb n) := hacc
    clear hacc
    have hsz := hb.size
    by_cases hlt : 127 < m
    · go_wp2_with (at_builtin; refine wpList_append_own _ rfl (.tmp 7) (.tmp 12) 22 rfl w.heap.size 5 i0 (.int .u8 0) 1 1 Tryz.underlying22 hi hz0 hz1 hz2 rfl (by decide) _ _ _ rfl (hown.alloc _) ⟨wr.heap.size, 0, none⟩ 1 1 [.int .u8 ((m : Int) % 128 + 128)] rfl rfl ?c1 ?c2 ?c3 ?c4 ?c5 ?_)
      case c1 => intro j u hj; match j, hj with | 0, hj => simp at hj; subst hj; simp [Addr.add]
      case c2 => intro u hu; simp at hu; subst hu; rfl
      case c3 => unfold maxLen; omega
      case c4 => omega
      case c5 => simp; omega
      intro v' w1 hown' hgrow _
      have R := var_step hlt HA.out hown hown' hgrow hb
      clear hown' hgrow hown hb
      go_wp2
      go_roundw
      case rel => exact ⟨m / 128, acc ++ [UInt8.ofNat (m % 128 + 128)], by omega, by go_num, R.1, R.2.1, R.2.2⟩
      case measure => simp [intOf]; omega
    · go_wp2_with (at_builtin; refine wpList_append_own _ rfl (.tmp 16) (.tmp 19) 22 rfl w.heap.size 5 i0 (.int .u8 0) 1 1 Tryz.underlying22 hi hz0 hz1 hz2 rfl (by decide) _ _ _ rfl (hown.alloc _) ⟨wr.heap.size, 0, none⟩ 1 1 [.int .u8 (m : Int)] rfl rfl ?d1 ?d2 ?d3 ?d4 ?d5 ?_)
      case d1 => intro j u hj; match j, hj with | 0, hj => simp at hj; subst hj; simp [Addr.add]
      case d2 => intro u hu; simp at hu; subst hu; rfl
      case d3 => unfold maxLen; omega
      case d4 => omega
      case d5 => simp; omega
      intro v' w1 hown' hgrow _
      have R := var_end (by omega) HA.out hown hown' hgrow hb
      have hcv := text_of_row (P := Tryz.prog) Tryz.underlying22 Tryz.underlying5 Tryz.underlying9 R.1
      clear hown' hgrow hown hb
      go_wp2
      go_ret
      exact ⟨rfl, R.2⟩

end Go.Proofs.YtohmfmajgehadaaGreatDoor
