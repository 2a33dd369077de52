/-
  The walk of laws.sameMessage: two messages that are one.
-/
import Derived.Test.YtohmfmajgehadaaGreatDoorRows
import Derived.Test.YtohmfmajgehadaaGreatDoorJoint1
import Derived.Test.YtohmfmajgehadaaGreatDoorJoint51
import Derived.Laws.StructEq
import Derived.Deep.QuietTactic
import Derived.Deep.LoopGhost
import Derived.BigQuiet
import Derived.WalkSmall
import Derived.WalkKit
namespace Go.Proofs.YtohmfmajgehadaaGreatDoor
open Go.RowKit

set_option maxRecDepth 100000 in
theorem neq_EntryM (p0 p1 : Int) (p2 : ByteArray) (w : World) : (binOp .neq 57 (.agg #[.int .i64 p0, .int .i64 p1, .string p2]) (.agg #[.int .i64 p0, .int .i64 p1, .string p2])).run Tryz.prog w = .ok (.bool false) w := by
  rw [run_neq_struct, run_equalIn_agg (w := w) (d := 9999) (t := 57) (ht := by kernel_rfl) (hp := by kernel_rfl)]
  simp only [Program.fieldsOf, Tryz.underlying57]
  simp [go_sem]
theorem guard_EntryM (a b : Operand) (xs ys : Array Value) (w : World) : (eqGuard .neq 57 a b (.agg xs) (.agg ys)).run Tryz.prog w = .ok () w := run_eqGuard_agg w .neq 57 a b xs ys (by kernel_rfl)

set_option maxRecDepth 1000000 in
set_option maxHeartbeats 2000000 in
theorem sameMessage_same (d : MsgD) (ao bo co eo : Option Addr) (ac bc cc ec : Nat) (hs : d.Small) (w : World) (h1 : EntsAt w ao d.ents) (h2 : IntsAt w bo d.conf) (h3 : EntsAt w co d.ents) (h4 : IntsAt w eo d.conf) :
    Calls Tryz.prog 17 #[.agg #[.int .i64 d.kind, .int .i64 d.src, .int .i64 d.dst, .int .i64 d.term, .int .i64 d.index, .int .i64 d.logTerm, .int .i64 d.commit, .bool d.ok, .slice ao d.ents.length ac, .slice bo d.conf.length bc, .string d.data, .bool d.last], .agg #[.int .i64 d.kind, .int .i64 d.src, .int .i64 d.dst, .int .i64 d.term, .int .i64 d.index, .int .i64 d.logTerm, .int .i64 d.commit, .bool d.ok, .slice co d.ents.length cc, .slice eo d.conf.length ec, .string d.data, .bool d.last]] w fun e w' => e = .returned (.bool true) ∧ Below w.heap.size w w' := by
  obtain ⟨kd, sr, ds, tm, ix, lt, cm, ok, L, zs, T, la⟩ := d
  obtain ⟨s1, s2, s3, s4⟩ := hs
  dsimp only at s1 s2 s3 s4 h1 h2 h3 h4 ⊢
  have H1 := hid h1
  have H2 := hid h2
  have H3 := hid h3
  have H4 := hid h4
  clear h1 h2 h3 h4 s2 s4
  have B_0 : Hid (Below w.heap.size w w) := hid (Below.refl w.heap.size w)
  obtain ⟨g0, hg0⟩ : ∃ g, w.heap.size = g := ⟨_, rfl⟩
  obtain ⟨U0, hU0⟩ : ∃ V, ((w.alloc (.cells #[.int .i64 kd, .int .i64 sr, .int .i64 ds, .int .i64 tm, .int .i64 ix, .int .i64 lt, .int .i64 cm, .bool ok, .slice ao L.length ac, .slice bo zs.length bc, .string T, .bool la] 39)).alloc (.cells #[.int .i64 kd, .int .i64 sr, .int .i64 ds, .int .i64 tm, .int .i64 ix, .int .i64 lt, .int .i64 cm, .bool ok, .slice co L.length cc, .slice eo zs.length ec, .string T, .bool la] 39)) = V := ⟨_, rfl⟩
  have bz0 : Below g0 w U0 := by rw [← hg0, ← hU0]; exact below_more (below_more (Below.refl w.heap.size w) (.cells #[.int .i64 kd, .int .i64 sr, .int .i64 ds, .int .i64 tm, .int .i64 ix, .int .i64 lt, .int .i64 cm, .bool ok, .slice ao L.length ac, .slice bo zs.length bc, .string T, .bool la] 39)) (.cells #[.int .i64 kd, .int .i64 sr, .int .i64 ds, .int .i64 tm, .int .i64 ix, .int .i64 lt, .int .i64 cm, .bool ok, .slice co L.length cc, .slice eo zs.length ec, .string T, .bool la] 39)
  have N0_0_0 : BlockIs U0 (g0) 39 [.int .i64 kd, .int .i64 sr, .int .i64 ds, .int .i64 tm, .int .i64 ix, .int .i64 lt, .int .i64 cm, .bool ok, .slice ao L.length ac, .slice bo zs.length bc, .string T, .bool la] := by rw [← hg0, ← hU0]; show ((w.heap.push _).push _)[w.heap.size]? = some _; rw [Array.getElem?_push, if_neg (by simp), Array.getElem?_push, if_pos rfl]
  have N0_1_0 : BlockIs U0 (g0 + 1) 39 [.int .i64 kd, .int .i64 sr, .int .i64 ds, .int .i64 tm, .int .i64 ix, .int .i64 lt, .int .i64 cm, .bool ok, .slice co L.length cc, .slice eo zs.length ec, .string T, .bool la] := by rw [← hg0, ← hU0]; show ((w.heap.push _).push _)[w.heap.size + 1]? = some _; rw [Array.getElem?_push, if_pos (by simp)]
  have hN0_0 := hid N0_0_0
  have hN0_1 := hid N0_1_0
  have bzz0 : Below w.heap.size w U0 := by have h := bz0; rw [← hg0] at h; exact h
  clear bz0 N0_0_0 N0_1_0
  have lo0 : w.heap.size ≤ g0 := by rw [← hg0]; exact B_0.out.size
  have ca0 := hN0_0.out.cell (j := 0) rfl
  have ca1 := hN0_0.out.cell (j := 1) rfl
  have ca2 := hN0_0.out.cell (j := 2) rfl
  have ca3 := hN0_0.out.cell (j := 3) rfl
  have ca4 := hN0_0.out.cell (j := 4) rfl
  have ca5 := hN0_0.out.cell (j := 5) rfl
  have ca6 := hN0_0.out.cell (j := 6) rfl
  have ca7 := hN0_0.out.cell (j := 7) rfl
  have ca8 := hN0_0.out.cell (j := 8) rfl
  have ca9 := hN0_0.out.cell (j := 9) rfl
  have ca10 := hN0_0.out.cell (j := 10) rfl
  have ca11 := hN0_0.out.cell (j := 11) rfl
  have cb0 := hN0_1.out.cell (j := 0) rfl
  have cb1 := hN0_1.out.cell (j := 1) rfl
  have cb2 := hN0_1.out.cell (j := 2) rfl
  have cb3 := hN0_1.out.cell (j := 3) rfl
  have cb4 := hN0_1.out.cell (j := 4) rfl
  have cb5 := hN0_1.out.cell (j := 5) rfl
  have cb6 := hN0_1.out.cell (j := 6) rfl
  have cb7 := hN0_1.out.cell (j := 7) rfl
  have cb8 := hN0_1.out.cell (j := 8) rfl
  have cb9 := hN0_1.out.cell (j := 9) rfl
  have cb10 := hN0_1.out.cell (j := 10) rfl
  have cb11 := hN0_1.out.cell (j := 11) rfl
  have CI := hid (sameInts_same bo eo zs bc ec s3 U0 (H2.out.on bzz0) (H4.out.on bzz0))
  go_enter Tryz.func17, Tryz.ntmps17
  go_wp2_with fail
  clear ca0 cb0 ca1 cb1 ca2 cb2 ca3 cb3 ca4 cb4 ca5 cb5 ca6 cb6 ca7 cb7 ca8 cb8 ca9 cb9 ca10 cb10 ca11 cb11
  have B_1 : Hid (Below w.heap.size w U0) := hid (below_via B_0.out bzz0)
  clear B_0
  clear bzz0
  have Xa_1 := hN0_0
  have Xb_1 := hN0_1
  refine Calls.mono CI.out ?_
  rintro e w1 ⟨rfl, b_s⟩
  clear CI H2 H4
  have Xa_2 : Hid (BlockIs w1 (g0) 39 [.int .i64 kd, .int .i64 sr, .int .i64 ds, .int .i64 tm, .int .i64 ix, .int .i64 lt, .int .i64 cm, .bool ok, .slice ao L.length ac, .slice bo zs.length bc, .string T, .bool la]) := hid (Xa_1.out.on b_s Xa_1.out.lt)
  have Xb_2 : Hid (BlockIs w1 (g0 + 1) 39 [.int .i64 kd, .int .i64 sr, .int .i64 ds, .int .i64 tm, .int .i64 ix, .int .i64 lt, .int .i64 cm, .bool ok, .slice co L.length cc, .slice eo zs.length ec, .string T, .bool la]) := hid (Xb_1.out.on b_s Xb_1.out.lt)
  have B_2 : Hid (Below w.heap.size w w1) := hid (below_via B_1.out b_s)
  clear Xa_1 Xb_1 B_1
  clear b_s
  have ca0_1 := Xa_2.out.cell (j := 0) rfl
  have ca1_1 := Xa_2.out.cell (j := 1) rfl
  have ca2_1 := Xa_2.out.cell (j := 2) rfl
  have ca3_1 := Xa_2.out.cell (j := 3) rfl
  have ca4_1 := Xa_2.out.cell (j := 4) rfl
  have ca5_1 := Xa_2.out.cell (j := 5) rfl
  have ca6_1 := Xa_2.out.cell (j := 6) rfl
  have ca7_1 := Xa_2.out.cell (j := 7) rfl
  have ca8_1 := Xa_2.out.cell (j := 8) rfl
  have ca9_1 := Xa_2.out.cell (j := 9) rfl
  have ca10_1 := Xa_2.out.cell (j := 10) rfl
  have ca11_1 := Xa_2.out.cell (j := 11) rfl
  have cb0_1 := Xb_2.out.cell (j := 0) rfl
  have cb1_1 := Xb_2.out.cell (j := 1) rfl
  have cb2_1 := Xb_2.out.cell (j := 2) rfl
  have cb3_1 := Xb_2.out.cell (j := 3) rfl
  have cb4_1 := Xb_2.out.cell (j := 4) rfl
  have cb5_1 := Xb_2.out.cell (j := 5) rfl
  have cb6_1 := Xb_2.out.cell (j := 6) rfl
  have cb7_1 := Xb_2.out.cell (j := 7) rfl
  have cb8_1 := Xb_2.out.cell (j := 8) rfl
  have cb9_1 := Xb_2.out.cell (j := 9) rfl
  have cb10_1 := Xb_2.out.cell (j := 10) rfl
  have cb11_1 := Xb_2.out.cell (j := 11) rfl
  go_wp2
  go_loopg [5] L.length (fun g i wr => ∃ (k : Nat), k + g = L.length ∧ i = .int .i64 k ∧ Hid (Below w1.heap.size w1 wr))
  case atStart => exact ⟨0, by omega, rfl, (show Below _ _ _ from Below.refl _ _)⟩
  case round =>
    obtain ⟨k, hkg, rfl, BR⟩ := hrel
    have Ra := hid (Xa_2.out.on BR.out Xa_2.out.lt)
    have Rb := hid (Xb_2.out.on BR.out Xb_2.out.lt)
    have ra0 := Ra.out.cell (j := 0) rfl
    have ra1 := Ra.out.cell (j := 1) rfl
    have ra2 := Ra.out.cell (j := 2) rfl
    have ra3 := Ra.out.cell (j := 3) rfl
    have ra4 := Ra.out.cell (j := 4) rfl
    have ra5 := Ra.out.cell (j := 5) rfl
    have ra6 := Ra.out.cell (j := 6) rfl
    have ra7 := Ra.out.cell (j := 7) rfl
    have ra8 := Ra.out.cell (j := 8) rfl
    have ra9 := Ra.out.cell (j := 9) rfl
    have ra10 := Ra.out.cell (j := 10) rfl
    have ra11 := Ra.out.cell (j := 11) rfl
    have rb0 := Rb.out.cell (j := 0) rfl
    have rb1 := Rb.out.cell (j := 1) rfl
    have rb2 := Rb.out.cell (j := 2) rfl
    have rb3 := Rb.out.cell (j := 3) rfl
    have rb4 := Rb.out.cell (j := 4) rfl
    have rb5 := Rb.out.cell (j := 5) rfl
    have rb6 := Rb.out.cell (j := 6) rfl
    have rb7 := Rb.out.cell (j := 7) rfl
    have rb8 := Rb.out.cell (j := 8) rfl
    have rb9 := Rb.out.cell (j := 9) rfl
    have rb10 := Rb.out.cell (j := 10) rfl
    have rb11 := Rb.out.cell (j := 11) rfl
    cases gk with
    | succ q =>
      have h1 : k < L.length := by omega
      have h1' : (k : Int) < (L.length : Int) := by omega
      have h0' : (0 : Int) ≤ (k : Int) := by omega
      have hne : L ≠ [] := by intro e; rw [e] at h1; simp at h1
      obtain ⟨ba, oa, rfl, hca⟩ := (H1.out.on (below_via B_2.out BR.out)) hne
      obtain ⟨bb, ob, rfl, hcb⟩ := (H3.out.on (below_via B_2.out BR.out)) hne
      obtain ⟨x0, x1, x2⟩ := hca k h1
      obtain ⟨y0, y1, y2⟩ := hcb k h1
      clear hca hcb hne
      obtain ⟨et, ht⟩ : ∃ t, L[k].term = t := ⟨_, rfl⟩
      obtain ⟨ek, hk⟩ : ∃ t, L[k].kind = t := ⟨_, rfl⟩
      obtain ⟨ed, hd⟩ : ∃ t, L[k].data = t := ⟨_, rfl⟩
      rw [ht] at x0 y0
      rw [hk] at x1 y1
      rw [hd] at x2 y2
      clear ht hk hd
      have hne := fun w => neq_EntryM et ek ed w
      have hgd := fun a b w => guard_EntryM a b #[.int .i64 et, .int .i64 ek, .string ed] #[.int .i64 et, .int .i64 ek, .string ed] w
      go_wp2
      go_quiet (fail)
      go_wp2
      go_roundg q
      case measure => omega
      case rel => exact ⟨k + 1, by omega, by go_num, below_drewN BR.out _⟩
    | zero =>
      have h1 : ¬ (k : Int) < (L.length : Int) := by omega
      have hok : (ok == ok) = true := by cases ok <;> rfl
      have hla : (la == la) = true := by cases la <;> rfl
      have htt : (T.toList == T.toList) = true := by simp
      go_wp2
      go_ret
      exact ⟨rfl, by first | exact below_via B_2.out BR.out | (rw [← hg0]; exact below_via B_2.out BR.out)⟩
end Go.Proofs.YtohmfmajgehadaaGreatDoor
