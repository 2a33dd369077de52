/-
  The walk of impl.ReadJournal.
  A journal that came in, read as data; the walks of laws.szJournal, toJournal, eqJournal.
  A journal that an answer owns: written over with marks, held against them; what is read of a journal's text, in parts.
-/
import Derived.Test.YthiifhfcognedaaDoorJoint34
import Derived.Test.YthiifhfcognedaaDoorJoint35
import Derived.Test.YthiifhfcognedaaDoorJoint47
import Derived.Test.YthiifhfcognedaaDoorJoint10
import Derived.Test.YthiifhfcognedaaDoorJoint1
import Derived.Test.YthiifhfcognedaaDoorJoint7
import Derived.Test.YthiifhfcognedaaDoorJoint8
import Derived.Test.YthiifhfcognedaaDoorJoint12
import Derived.Test.YthiifhfcognedaaDoorJoint6
namespace Go.Proofs.YthiifhfcognedaaDoor
open Go.RowKit

set_option maxRecDepth 1000000 in
set_option maxHeartbeats 4000000 in
theorem implReadJournal_any (n : Int) (s : ByteArray) (hs : s.size ≤ 1048576) (w : World) (ht : Steps w) (he : w.cell? ⟨0, 0, none⟩ = some (rt hE)) : Calls Tryd.prog 6 #[.int .i64 n, .string s] w fun e w' => rjDid (readJ n s) w e w' := by
  have bw := below_more (Below.refl w.heap.size w) (.cells #[.int .i64 0, .int .i64 0, .int .i64 0, .int .i64 0, .int .i64 0, .slice none 0 0] 26)
  have HT := hid (steps_on ht bw)
  have HE := hid ((bw.cell (p := ⟨0, 0, none⟩) (World.block_lt_of_cell? w _ he)).trans he)
  have B0 := hid bw
  have R0 : Hid (BlockIs (w.alloc (.cells #[.int .i64 0, .int .i64 0, .int .i64 0, .int .i64 0, .int .i64 0, .slice none 0 0] 26)) w.heap.size 26 [.int .i64 0, .int .i64 0, .int .i64 0, .int .i64 0, .int .i64 0, .slice none 0 0]) := heap_alloc_new w _
  have hlo : w.heap.size ≤ (w.alloc (.cells #[.int .i64 0, .int .i64 0, .int .i64 0, .int .i64 0, .int .i64 0, .slice none 0 0] 26)).heap.size := bw.size
  clear ht he bw
  obtain ⟨W, hW⟩ : ∃ W, w.alloc (.cells #[.int .i64 0, .int .i64 0, .int .i64 0, .int .i64 0, .int .i64 0, .slice none 0 0] 26) = W := ⟨_, rfl⟩
  rw [hW] at HT HE B0 R0 hlo
  go_enter Tryd.func6, Tryd.ntmps6
  go_wp2_with fail
  refine (readJournal_any n s hs _ HT.out).mono ?_
  rintro e w1 h1
  clear hW
  cases hq : readJ n s with
  | none =>
    rw [hq] at h1
    obtain ⟨c, hc, rfl, b1⟩ := h1
    rcases hc with rfl | rfl
    · have bx := below_more b1 (.cells #[.int .i64 0, .int .i64 0, .int .i64 0, .int .i64 0, .int .i64 0, .slice none 0 0] 26)
      have X1 := R0.out.on bx R0.out.lt
      have BX := below_via B0.out bx
      go_wp2_with fail
      refine (codeOf_fault 1 _ ((bx.cell (p := ⟨0, 0, none⟩) (World.block_lt_of_cell? _ _ HE.out)).trans HE.out)).mono ?_
      rintro e w2 ⟨rfl, b2⟩
      have X2 := X1.on b2 X1.lt
      have BL := hid (((((((below_via BX b2).setCell (p := ⟨w.heap.size, 0, none⟩) (Nat.le_refl _) (.int .i64 0)).setCell (p := ⟨w.heap.size, 1, none⟩) (Nat.le_refl _) (.int .i64 0)).setCell (p := ⟨w.heap.size, 2, none⟩) (Nat.le_refl _) (.int .i64 0)).setCell (p := ⟨w.heap.size, 3, none⟩) (Nat.le_refl _) (.int .i64 0)).setCell (p := ⟨w.heap.size, 4, none⟩) (Nat.le_refl _) (.int .i64 0)).setCell (p := ⟨w.heap.size, 5, none⟩) (Nat.le_refl _) (.slice none 0 0))
      have z0 := X2.cell (j := 0) rfl
      have z1 := X2.cell (j := 1) rfl
      have z2 := X2.cell (j := 2) rfl
      have z3 := X2.cell (j := 3) rfl
      have z4 := X2.cell (j := 4) rfl
      have z5 := X2.cell (j := 5) rfl
      have q0 := X2.thaw 0
      have q1 := X2.thaw 1
      have q2 := X2.thaw 2
      have q3 := X2.thaw 3
      have q4 := X2.thaw 4
      have q5 := X2.thaw 5
      clear b1 bx X1 BX b2 X2
      go_wp2
      refine bodyPost_ret (v := .tuple #[.agg #[.int .i64 0, .int .i64 0, .int .i64 0, .int .i64 0, .int .i64 0, .slice none 0 0], .int .i64 0, .bool false]) (by simp [results, Tryd.results6, go_sem, z0, z1, z2, z3, z4, z5]) rfl ?_
      rw [hq]
      exact ⟨rfl, BL.out⟩
    · have bx := below_more b1 (.cells #[.int .i64 0, .int .i64 0, .int .i64 0, .int .i64 0, .int .i64 0, .slice none 0 0] 26)
      have X1 := R0.out.on bx R0.out.lt
      have BX := below_via B0.out bx
      go_wp2_with fail
      refine (codeOf_fault 3 _ ((bx.cell (p := ⟨0, 0, none⟩) (World.block_lt_of_cell? _ _ HE.out)).trans HE.out)).mono ?_
      rintro e w2 ⟨rfl, b2⟩
      have X2 := X1.on b2 X1.lt
      have BL := hid (((((((below_via BX b2).setCell (p := ⟨w.heap.size, 0, none⟩) (Nat.le_refl _) (.int .i64 0)).setCell (p := ⟨w.heap.size, 1, none⟩) (Nat.le_refl _) (.int .i64 0)).setCell (p := ⟨w.heap.size, 2, none⟩) (Nat.le_refl _) (.int .i64 0)).setCell (p := ⟨w.heap.size, 3, none⟩) (Nat.le_refl _) (.int .i64 0)).setCell (p := ⟨w.heap.size, 4, none⟩) (Nat.le_refl _) (.int .i64 0)).setCell (p := ⟨w.heap.size, 5, none⟩) (Nat.le_refl _) (.slice none 0 0))
      have z0 := X2.cell (j := 0) rfl
      have z1 := X2.cell (j := 1) rfl
      have z2 := X2.cell (j := 2) rfl
      have z3 := X2.cell (j := 3) rfl
      have z4 := X2.cell (j := 4) rfl
      have z5 := X2.cell (j := 5) rfl
      have q0 := X2.thaw 0
      have q1 := X2.thaw 1
      have q2 := X2.thaw 2
      have q3 := X2.thaw 3
      have q4 := X2.thaw 4
      have q5 := X2.thaw 5
      clear b1 bx X1 BX b2 X2
      go_wp2
      refine bodyPost_ret (v := .tuple #[.agg #[.int .i64 0, .int .i64 0, .int .i64 0, .int .i64 0, .int .i64 0, .slice none 0 0], .int .i64 0, .bool false]) (by simp [results, Tryd.results6, go_sem, z0, z1, z2, z3, z4, z5]) rfl ?_
      rw [hq]
      exact ⟨rfl, BL.out⟩
  | some p =>
    obtain ⟨j, E⟩ := p
    rw [hq] at h1
    obtain ⟨vo, vc, er, her, rfl, hvc, ho, b1⟩ := h1
    rcases her with rfl | rfl
    · have bx := below_more b1 (.cells #[.int .i64 j.n, .int .i64 j.tm, .int .i64 j.vt, .int .i64 j.s, .int .i64 j.t, .slice vo j.l.length vc] 26)
      have X1 := R0.out.on bx R0.out.lt
      have K1 : BlockIs (w1.alloc (.cells #[.int .i64 j.n, .int .i64 j.tm, .int .i64 j.vt, .int .i64 j.s, .int .i64 j.t, .slice vo j.l.length vc] 26)) w1.heap.size 26 [.int .i64 j.n, .int .i64 j.tm, .int .i64 j.vt, .int .i64 j.s, .int .i64 j.t, .slice vo j.l.length vc] := heap_alloc_new w1 _
      have O1 := own_to ho (below_more (Below.refl w1.heap.size w1) (.cells #[.int .i64 j.n, .int .i64 j.tm, .int .i64 j.vt, .int .i64 j.s, .int .i64 j.t, .slice vo j.l.length vc] 26))
      have BX := below_via B0.out bx
      go_wp2_with fail
      refine (codeOf_nil _).mono ?_
      rintro e w2 ⟨rfl, b2⟩
      have X2 := X1.on b2 X1.lt
      have K2 := K1.on b2 K1.lt
      have O2 := own_to O1 b2
      have BL := hid (((((((below_via BX b2).setCell (p := ⟨w.heap.size, 0, none⟩) (Nat.le_refl _) (.int .i64 j.n)).setCell (p := ⟨w.heap.size, 1, none⟩) (Nat.le_refl _) (.int .i64 j.tm)).setCell (p := ⟨w.heap.size, 2, none⟩) (Nat.le_refl _) (.int .i64 j.vt)).setCell (p := ⟨w.heap.size, 3, none⟩) (Nat.le_refl _) (.int .i64 j.s)).setCell (p := ⟨w.heap.size, 4, none⟩) (Nat.le_refl _) (.int .i64 j.t)).setCell (p := ⟨w.heap.size, 5, none⟩) (Nat.le_refl _) (.slice vo j.l.length vc))
      have OL := hid (own_past (j := 5) (u := .slice vo j.l.length vc) (own_past (j := 4) (u := .int .i64 j.t) (own_past (j := 3) (u := .int .i64 j.s) (own_past (j := 2) (u := .int .i64 j.vt) (own_past (j := 1) (u := .int .i64 j.tm) (own_past (j := 0) (u := .int .i64 j.n) O2 X2 (by decide)) (X2.set 0 (.int .i64 j.n)) (by decide)) ((X2.set 0 (.int .i64 j.n)).set 1 (.int .i64 j.tm)) (by decide)) (((X2.set 0 (.int .i64 j.n)).set 1 (.int .i64 j.tm)).set 2 (.int .i64 j.vt)) (by decide)) ((((X2.set 0 (.int .i64 j.n)).set 1 (.int .i64 j.tm)).set 2 (.int .i64 j.vt)).set 3 (.int .i64 j.s)) (by decide)) (((((X2.set 0 (.int .i64 j.n)).set 1 (.int .i64 j.tm)).set 2 (.int .i64 j.vt)).set 3 (.int .i64 j.s)).set 4 (.int .i64 j.t)) (by decide))
      have z0 := X2.cell (j := 0) rfl
      have z1 := X2.cell (j := 1) rfl
      have z2 := X2.cell (j := 2) rfl
      have z3 := X2.cell (j := 3) rfl
      have z4 := X2.cell (j := 4) rfl
      have z5 := X2.cell (j := 5) rfl
      have q0 := X2.thaw 0
      have q1 := X2.thaw 1
      have q2 := X2.thaw 2
      have q3 := X2.thaw 3
      have q4 := X2.thaw 4
      have q5 := X2.thaw 5
      have k0 := K2.cell (j := 0) rfl
      have k1 := K2.cell (j := 1) rfl
      have k2 := K2.cell (j := 2) rfl
      have k3 := K2.cell (j := 3) rfl
      have k4 := K2.cell (j := 4) rfl
      have k5 := K2.cell (j := 5) rfl
      clear b1 bx X1 BX b2 X2 K1 K2 O1 O2 ho
      go_wp2
      refine bodyPost_ret (v := .tuple #[.agg #[.int .i64 j.n, .int .i64 j.tm, .int .i64 j.vt, .int .i64 j.s, .int .i64 j.t, .slice vo j.l.length vc], .int .i64 E, .bool true]) (by simp [results, Tryd.results6, go_sem, z0, z1, z2, z3, z4, z5]) rfl ?_
      rw [hq]
      exact ⟨vo, vc, rfl, hvc, OL.out.down hlo (Nat.le_refl _), BL.out⟩
    · have bx := below_more b1 (.cells #[.int .i64 j.n, .int .i64 j.tm, .int .i64 j.vt, .int .i64 j.s, .int .i64 j.t, .slice vo j.l.length vc] 26)
      have X1 := R0.out.on bx R0.out.lt
      have K1 : BlockIs (w1.alloc (.cells #[.int .i64 j.n, .int .i64 j.tm, .int .i64 j.vt, .int .i64 j.s, .int .i64 j.t, .slice vo j.l.length vc] 26)) w1.heap.size 26 [.int .i64 j.n, .int .i64 j.tm, .int .i64 j.vt, .int .i64 j.s, .int .i64 j.t, .slice vo j.l.length vc] := heap_alloc_new w1 _
      have O1 := own_to ho (below_more (Below.refl w1.heap.size w1) (.cells #[.int .i64 j.n, .int .i64 j.tm, .int .i64 j.vt, .int .i64 j.s, .int .i64 j.t, .slice vo j.l.length vc] 26))
      have BX := below_via B0.out bx
      go_wp2_with fail
      refine (codeOf_fault 4 _ ((bx.cell (p := ⟨0, 0, none⟩) (World.block_lt_of_cell? _ _ HE.out)).trans HE.out)).mono ?_
      rintro e w2 ⟨rfl, b2⟩
      have X2 := X1.on b2 X1.lt
      have K2 := K1.on b2 K1.lt
      have O2 := own_to O1 b2
      have BL := hid (((((((below_via BX b2).setCell (p := ⟨w.heap.size, 0, none⟩) (Nat.le_refl _) (.int .i64 j.n)).setCell (p := ⟨w.heap.size, 1, none⟩) (Nat.le_refl _) (.int .i64 j.tm)).setCell (p := ⟨w.heap.size, 2, none⟩) (Nat.le_refl _) (.int .i64 j.vt)).setCell (p := ⟨w.heap.size, 3, none⟩) (Nat.le_refl _) (.int .i64 j.s)).setCell (p := ⟨w.heap.size, 4, none⟩) (Nat.le_refl _) (.int .i64 j.t)).setCell (p := ⟨w.heap.size, 5, none⟩) (Nat.le_refl _) (.slice vo j.l.length vc))
      have OL := hid (own_past (j := 5) (u := .slice vo j.l.length vc) (own_past (j := 4) (u := .int .i64 j.t) (own_past (j := 3) (u := .int .i64 j.s) (own_past (j := 2) (u := .int .i64 j.vt) (own_past (j := 1) (u := .int .i64 j.tm) (own_past (j := 0) (u := .int .i64 j.n) O2 X2 (by decide)) (X2.set 0 (.int .i64 j.n)) (by decide)) ((X2.set 0 (.int .i64 j.n)).set 1 (.int .i64 j.tm)) (by decide)) (((X2.set 0 (.int .i64 j.n)).set 1 (.int .i64 j.tm)).set 2 (.int .i64 j.vt)) (by decide)) ((((X2.set 0 (.int .i64 j.n)).set 1 (.int .i64 j.tm)).set 2 (.int .i64 j.vt)).set 3 (.int .i64 j.s)) (by decide)) (((((X2.set 0 (.int .i64 j.n)).set 1 (.int .i64 j.tm)).set 2 (.int .i64 j.vt)).set 3 (.int .i64 j.s)).set 4 (.int .i64 j.t)) (by decide))
      have z0 := X2.cell (j := 0) rfl
      have z1 := X2.cell (j := 1) rfl
      have z2 := X2.cell (j := 2) rfl
      have z3 := X2.cell (j := 3) rfl
      have z4 := X2.cell (j := 4) rfl
      have z5 := X2.cell (j := 5) rfl
      have q0 := X2.thaw 0
      have q1 := X2.thaw 1
      have q2 := X2.thaw 2
      have q3 := X2.thaw 3
      have q4 := X2.thaw 4
      have q5 := X2.thaw 5
      have k0 := K2.cell (j := 0) rfl
      have k1 := K2.cell (j := 1) rfl
      have k2 := K2.cell (j := 2) rfl
      have k3 := K2.cell (j := 3) rfl
      have k4 := K2.cell (j := 4) rfl
      have k5 := K2.cell (j := 5) rfl
      clear b1 bx X1 BX b2 X2 K1 K2 O1 O2 ho
      go_wp2
      refine bodyPost_ret (v := .tuple #[.agg #[.int .i64 j.n, .int .i64 j.tm, .int .i64 j.vt, .int .i64 j.s, .int .i64 j.t, .slice vo j.l.length vc], .int .i64 E, .bool true]) (by simp [results, Tryd.results6, go_sem, z0, z1, z2, z3, z4, z5]) rfl ?_
      rw [hq]
      exact ⟨vo, vc, rfl, hvc, OL.out.down hlo (Nat.le_refl _), BL.out⟩
end Go.Proofs.YthiifhfcognedaaDoor

namespace Go.Proofs.YthiifhfcognedaaDoor
open Go.ChangeShapes Go.WideShapes Go.RowKit Go.Deep

set_option maxRecDepth 1000000 in
theorem jour_cells : Tryd.prog.cellsOf 36 = 6 := by kernel_rfl

set_option maxRecDepth 1000000 in
theorem jour_fields {H : Type} {enc : TypeId × Value → H} {P : Program} {W : World} {base : Nat} {sp : Nat → Bool} {held : Bool} {fuel : Nat} {t : TypeId} {f0 f1 f2 f3 : Field} {cs : List Value} {x : DataW H × List MemPlace} (ht : P.underlying t = some (.struct #[f0, f1, f2, f3])) (h : DataW.trod enc P W base sp held fuel t cs = some x) :
    ∃ y0 y1 y2 y3 n, cs.length = P.cellsOf t ∧ DataW.trod enc P W base sp held n f0.type ((cs.drop f0.offset).take (P.cellsOf f0.type)) = some y0 ∧ DataW.trod enc P W base sp held n f1.type ((cs.drop f1.offset).take (P.cellsOf f1.type)) = some y1 ∧
      DataW.trod enc P W base sp held n f2.type ((cs.drop f2.offset).take (P.cellsOf f2.type)) = some y2 ∧ DataW.trod enc P W base sp held n f3.type ((cs.drop f3.offset).take (P.cellsOf f3.type)) = some y3 := by
  obtain ⟨xs, n, _, _, hl, hlen, hf⟩ := DataW.trod_struct ht h
  match xs, hlen with
  | [y0, y1, y2, y3], _ => exact ⟨y0, y1, y2, y3, n, hl, by simpa using hf 0 f0 rfl, by simpa using hf 1 f1 rfl, by simpa using hf 2 f2 rfl, by simpa using hf 3 f3 rfl⟩

set_option maxRecDepth 1000000 in
/-- a journal as a parameter -/
theorem open_jour {H : Type} {enc : TypeId × Value → H} {W : World} {r : Reach} {b0 base : Nat} {sp : Nat → Bool} {held : Bool} {v : Value} {d : DataW H} {ps : List MemPlace} (hval : Value.okWide Tryd.prog W r b0 36 v) (hd : DataW.Trod enc Tryd.prog W base sp held 36 v d ps) :
    ∃ n tm vt s t ao l cap, v = .agg #[.int .i64 n, .int .i64 tm, .int .i64 vt, .int .i64 s, .int .i64 t, .slice ao l.length cap] ∧ (-9223372036854775808 ≤ n ∧ n ≤ 9223372036854775807) ∧ (-9223372036854775808 ≤ tm ∧ tm ≤ 9223372036854775807) ∧ (-9223372036854775808 ≤ vt ∧ vt ≤ 9223372036854775807) ∧ (-9223372036854775808 ≤ s ∧ s ≤ 9223372036854775807) ∧ (-9223372036854775808 ≤ t ∧ t ≤ 9223372036854775807) ∧ l.length ≤ cap ∧ cap ≤ maxLen ∧ EntsAt W ao l ∧ EntsFit l := by
  obtain ⟨cs, rfl, _⟩ := okWide_struct Tryd.underlying36 hval
  obtain ⟨fuel, hf⟩ := hd
  obtain ⟨y0, y1, y2, y3, n, hl, h0, h1, h2, h3⟩ := jour_fields Tryd.underlying36 hf
  rw [jour_cells] at hl
  obtain ⟨c⟩ := cs
  have hl' : c.length = 6 := by simpa [Value.cells] using hl
  match c, hl' with
  | [x0, x1, x2, x3, x4, x5], _ =>
    simp only [Value.cells, ent_cells3, log_cells1] at h0 h1 h2 h3
    obtain ⟨k0, e0, _, s0⟩ := DataW.trod_int Tryd.underlying3 h0
    obtain ⟨k1, e1, _, s1⟩ := DataW.trod_int Tryd.underlying3 h1
    obtain ⟨k2, e2, _, s2⟩ := DataW.trod_int Tryd.underlying3 h2
    obtain ⟨z0, z1, z2, m, _, g0, g1, g2⟩ := ent_fields Tryd.underlying34 h3
    simp only [ent_cells3, log_cellsS] at g0 g1 g2
    obtain ⟨s, e3, _, s3⟩ := DataW.trod_int Tryd.underlying3 g0
    obtain ⟨t, e4, _, s4⟩ := DataW.trod_int Tryd.underlying3 g1
    obtain ⟨ao, l, cap, e5, r⟩ := open_ents g2
    simp at e0 e1 e2 e3 e4 e5
    subst e0 e1 e2 e3 e4 e5
    exact ⟨k0, k1, k2, s, t, ao, l, cap, rfl, bounds_i64 s0, bounds_i64 s1, bounds_i64 s2, bounds_i64 s3, bounds_i64 s4, r⟩

set_option maxRecDepth 1000000 in
set_option maxHeartbeats 1000000 in
theorem szJour_any (n tm vt s t : Int) (ao : Option Addr) (l : List EntD) (cap : Nat) (k : Int) (h0 : 0 ≤ k) (h1 : k ≤ 1048576) (hl : l.length ≤ 9223372036854775807) (hf : EntsFit l) (w : World) (ha : EntsAt w ao l) :
    Calls Tryd.prog 10 #[jourV n tm vt s t (.slice ao l.length cap), .int .i64 k] w fun e w' => ((k - l.length - entBulk l < 0 ∧ e = .returned (.int .i64 (-1))) ∨ (0 ≤ k - l.length - entBulk l ∧ e = .returned (.int .i64 (k - l.length - entBulk l)))) ∧ Below w.heap.size w w' := by
  have HA := hid ha
  have C := hid (fun w ha => szLog_any s t ao l cap k h0 h1 hl hf w ha)
  have HB := hid (below_more (Below.refl w.heap.size w) (.cells #[.int .i64 n, .int .i64 tm, .int .i64 vt, .int .i64 s, .int .i64 t, .slice ao l.length cap] 36))
  clear ha hf
  go_enter Tryd.func10, Tryd.ntmps10
  go_wp2_with fail
  refine (C.out _ (HA.out.on HB.out)).mono ?_
  rintro e w1 ⟨(⟨hneg, rfl⟩ | ⟨hnn, rfl⟩), b1⟩
  · have B1 := hid (below_via HB.out b1)
    clear b1 C HB
    go_wp2
    go_ret
    exact ⟨Or.inl ⟨hneg, rfl⟩, B1.out⟩
  · have B1 := hid (below_via HB.out b1)
    clear b1 C HB
    obtain ⟨q, hq⟩ : ∃ q, k - l.length - entBulk l = q := ⟨_, rfl⟩
    rw [hq] at hnn ⊢
    go_wp2
    go_ret
    exact ⟨Or.inr ⟨by omega, by rw [hq]; rfl⟩, B1.out⟩

set_option maxRecDepth 1000000 in
set_option maxHeartbeats 1000000 in
theorem toJour_any (n tm vt s t : Int) (ao : Option Addr) (l : List EntD) (cap : Nat) (hl : l.length ≤ 1048576) (w : World) (ha : EntsAt w ao l) :
    Calls Tryd.prog 12 #[jourV n tm vt s t (.slice ao l.length cap)] w fun e w' => ∃ g, w.heap.size ≤ g ∧ e = .returned (jourV n tm vt s t (.slice (some ⟨g, 0, none⟩) l.length l.length)) ∧ BlockIs w' g 76 (entCells l) ∧ Below w.heap.size w w' := by
  have C := hid (fun w ha => toLog_any s t ao l cap hl w ha)
  have HA := hid ha
  clear ha
  have H3 := hid (three_log w (.cells #[.int .i64 n, .int .i64 tm, .int .i64 vt, .int .i64 s, .int .i64 t, .slice ao l.length cap] 36) (.cells #[.int .i64 0, .int .i64 0, .int .i64 0, .int .i64 0, .int .i64 0, .slice none 0 0] 26) (.cells #[.int .i64 n, .int .i64 tm, .int .i64 vt, .int .i64 0, .int .i64 0, .slice none 0 0] 26))
  go_enter Tryd.func12, Tryd.ntmps12
  go_wp2_with fail
  refine (C.out _ (HA.out.on H3.out.1)).mono ?_
  rintro e w1 ⟨g, hg, rfl, hbl, b1⟩
  obtain ⟨hb0, hs0, hx1, hx2⟩ := H3.out
  rw [hs0] at b1 hg
  have k1 : BlockIs w1 (w.heap.size + 1) 26 [.int .i64 0, .int .i64 0, .int .i64 0, .int .i64 0, .int .i64 0, .slice none 0 0] := BlockIs.on (show BlockIs _ _ _ _ from hx1) b1 (by omega)
  have k2 : BlockIs w1 (w.heap.size + 1 + 1) 26 [.int .i64 n, .int .i64 tm, .int .i64 vt, .int .i64 0, .int .i64 0, .slice none 0 0] := BlockIs.on (show BlockIs _ _ _ _ from hx2) b1 (by omega)
  have c10 := k1.cell (j := 0) rfl
  have c11 := k1.cell (j := 1) rfl
  have c12 := k1.cell (j := 2) rfl
  have c13 := k1.cell (j := 3) rfl
  have c14 := k1.cell (j := 4) rfl
  have c15 := k1.cell (j := 5) rfl
  have c20 := k2.cell (j := 0) rfl
  have c21 := k2.cell (j := 1) rfl
  have c22 := k2.cell (j := 2) rfl
  have c23 := k2.cell (j := 3) rfl
  have c24 := k2.cell (j := 4) rfl
  have c25 := k2.cell (j := 5) rfl
  have f10 := k1.thaw 0
  have f11 := k1.thaw 1
  have f12 := k1.thaw 2
  have f13 := k1.thaw 3
  have f14 := k1.thaw 4
  have f15 := k1.thaw 5
  have f23 := k2.thaw 3
  have f24 := k2.thaw 4
  have f25 := k2.thaw 5
  have B1 := hid (hb0.trans (b1.mono (by omega)))
  have HB := hid hbl
  have HG := hid hg
  clear hbl b1 C H3 hb0 hs0 hx1 hx2 k1 k2 hg
  go_wp2
  refine bodyPost_ret (v := .agg #[.int .i64 n, .int .i64 tm, .int .i64 vt, .int .i64 s, .int .i64 t, .slice (some ⟨g, 0, none⟩) l.length l.length]) (by simp [results, Tryd.results12, go_sem, c10, c11, c12, c13, c14, c15]) rfl ⟨_, by have := HG.out; omega, rfl, ?_, ?_⟩
  · exact (((((((((HB.out.far (by have := HG.out; omega) _).far (by have := HG.out; omega) _).far (by have := HG.out; omega) _).far (by have := HG.out; omega) _).far (by have := HG.out; omega) _).far (by have := HG.out; omega) _).far (by have := HG.out; omega) _).far (by have := HG.out; omega) _).far (by have := HG.out; omega) _)
  · exact (((((((((B1.out.setCell (by show _ ≤ _ + 1 + 1; omega) _).setCell (by show _ ≤ _ + 1 + 1; omega) _).setCell (by show _ ≤ _ + 1 + 1; omega) _).setCell (by show _ ≤ _ + 1; omega) _).setCell (by show _ ≤ _ + 1; omega) _).setCell (by show _ ≤ _ + 1; omega) _).setCell (by show _ ≤ _ + 1; omega) _).setCell (by show _ ≤ _ + 1; omega) _).setCell (by show _ ≤ _ + 1; omega) _)

/-- three blocks laid one behind the other, with the first -/
theorem three_jour (w : World) (o p : Obj) : Below w.heap.size w ((w.alloc o).alloc p) ∧ ((w.alloc o).alloc p).heap.size = w.heap.size + 2 ∧ ((w.alloc o).alloc p).heap[w.heap.size]? = some o ∧ ((w.alloc o).alloc p).heap[w.heap.size + 1]? = some p := by
  refine ⟨below_more (below_more (Below.refl _ w) _) _, by simp [World.alloc, -World.alloc_eq], ?_, ?_⟩
  · show ((w.heap.push o).push p)[w.heap.size]? = some o
    rw [Array.getElem?_push, if_neg (by simp), Array.getElem?_push, if_pos rfl]
  · show ((w.heap.push o).push p)[w.heap.size + 1]? = some p
    rw [Array.getElem?_push, if_pos (by simp)]

set_option maxRecDepth 1000000 in
set_option maxHeartbeats 1000000 in
theorem eqJour_same (n tm vt s t : Int) (ao bo : Option Addr) (l : List EntD) (cap cap' : Nat) (hl : l.length ≤ 140737488355328) (w : World) (ha : EntsAt w ao l) (hb : EntsAt w bo l) :
    Calls Tryd.prog 7 #[jourV n tm vt s t (.slice ao l.length cap), jourV n tm vt s t (.slice bo l.length cap')] w fun e w' => e = .returned (.bool true) ∧ Below w.heap.size w w' := by
  have C := hid (fun w ha hb => eqLog_same s t ao bo l cap cap' hl w ha hb)
  have HBB : Hid (∀ (o p : Obj), Below w.heap.size w ((w.alloc o).alloc p)) := fun o p => below_more (below_more (Below.refl _ w) o) p
  have HA := hid ha
  have HB := hid hb
  clear ha hb
  go_enter Tryd.func7, Tryd.ntmps7
  go_wp2_with fail
  refine (C.out _ (HA.out.on (HBB.out _ _)) (HB.out.on (HBB.out _ _))).mono ?_
  rintro e w1 ⟨rfl, b1⟩
  have B1 := hid (below_via (HBB.out _ _) b1)
  clear b1 C
  go_wp2
  go_ret
  exact ⟨rfl, B1.out⟩
end Go.Proofs.YthiifhfcognedaaDoor

namespace Go.Proofs.YthiifhfcognedaaDoor
open Go.RowKit

def rjJ (o : Option (JouD × Nat)) : JouD := match o with | none => ⟨0, 0, 0, 0, 0, []⟩ | some (j, _) => j
def rjK (o : Option (JouD × Nat)) : Nat := match o with | none => 0 | some (_, k) => k
theorem rjDid_parts {o : Option (JouD × Nat)} {w : World} {e : Ending} {w' : World} (h : rjDid o w e w') : ∃ vo vc, e = .returned (.tuple #[.agg #[.int .i64 (rjJ o).n, .int .i64 (rjJ o).tm, .int .i64 (rjJ o).vt, .int .i64 (rjJ o).s, .int .i64 (rjJ o).t, .slice vo (rjJ o).l.length vc], .int .i64 (rjK o), .bool o.isSome]) ∧ OwnAt w' 76 (entCells (rjJ o).l) (rjJ o).l.length vo w.heap.size w'.heap.size ∧ Below w.heap.size w w' := by
  cases o with
  | none => exact ⟨none, 0, h.1, Or.inl rfl, h.2⟩
  | some p =>
    obtain ⟨j, k⟩ := p
    obtain ⟨vo, vc, h1, _, h2, h3⟩ := h
    exact ⟨vo, vc, h1, h2, h3⟩
theorem tell_len {j k : JouD} {r : ByteArray} (h0 : j.l.length ≤ 60) (h : tellMore j r = some k) : k.l.length ≤ 60 := by
  cases h2 : readTwo 72 r with
  | some p =>
    obtain ⟨a, b⟩ := p
    by_cases h3 : (within a 0 100000 && within b 0 4) = true
    · rw [tell_head h2 h3] at h; cases h; exact h0
    · rw [tell_bad h2 (by simpa using h3)] at h; cases h
  | none =>
    cases h3 : readEntry r with
    | none => rw [tell_no h2 h3] at h; cases h
    | some p =>
      obtain ⟨i, e⟩ := p
      rw [tell_put h2 h3] at h
      split at h
      · rename_i hq
        cases h
        unfold putAns at hq ⊢
        split at hq
        · rename_i hc
          simp only [hc, and_self, if_true]
          exact (logOk_iff.1 hc.2.2).2.2.1
        · simp at hq
      · cases h
theorem tellAll_len : ∀ (rs : List ByteArray) (j : JouD) (e : Nat), j.l.length ≤ 60 → (tellAll j e rs).1.l.length ≤ 60
  | [], _, _, h => h
  | r :: rs, j, e, h => by
    rw [tellAll]
    cases hm : tellMore j r with
    | none => exact h
    | some k => exact tellAll_len rs k _ (tell_len h hm)
theorem readJ_len (n : Int) (s : ByteArray) : (rjJ (readJ n s)).l.length ≤ 60 := by
  cases h0 : within n 0 999 with
  | false => rw [readJ_n h0]; exact Nat.zero_le _
  | true =>
    cases h : ufT s with
    | nil => rw [readJ_nil h]; exact Nat.zero_le _
    | cons r rs =>
      cases h2 : readTwo 66 r with
      | none => rw [readJ_two h h2]; exact Nat.zero_le _
      | some p =>
        obtain ⟨a, b⟩ := p
        cases h3 : logOk a b [] with
        | false => rw [readJ_log h h2 h3]; exact Nat.zero_le _
        | true => rw [readJ_yes h0 h h2 h3]; exact tellAll_len rs _ _ (Nat.zero_le _)

set_option maxRecDepth 1000000 in
theorem markJour_o (n tm vt s t : Int) (m : Nat) (va : Option Addr) (vc : Nat) (l : List EntD) (lo hi : Nat) (hm : m ≤ 10000000) (hl : l.length ≤ 1048576) (w : World) (hw : lo ≤ w.heap.size) (_hh : hi ≤ w.heap.size) (h : OwnAt w 76 (entCells l) l.length va lo hi) :
    Calls Tryd.prog 8 #[.agg #[.int .i64 n, .int .i64 tm, .int .i64 vt, .int .i64 s, .int .i64 t, .slice va l.length vc], .int .i64 m] w fun e w' => e = .returned (.int .i64 ((m + 3 * l.length : Nat) : Int)) ∧ EntsAt w' va (marksE m l.length) ∧ KeptBut2 lo hi w w' ∧ Below lo w w' := by
  have bw := below_more (Below.refl w.heap.size w) (.cells #[.int .i64 n, .int .i64 tm, .int .i64 vt, .int .i64 s, .int .i64 t, .slice va l.length vc] 26)
  have HJ : Hid (BlockIs (w.alloc (.cells #[.int .i64 n, .int .i64 tm, .int .i64 vt, .int .i64 s, .int .i64 t, .slice va l.length vc] 26)) w.heap.size 26 [.int .i64 n, .int .i64 tm, .int .i64 vt, .int .i64 s, .int .i64 t, .slice va l.length vc]) := heap_alloc_new w _
  have C := hid (markLog_o2 s t m va vc l lo hi hm hl _ (Nat.le_trans hw bw.size) (h.on bw))
  have HB := hid bw
  clear bw h
  obtain ⟨K, hK⟩ : ∃ K, m + 3 * l.length = K := ⟨_, rfl⟩
  rw [hK] at C ⊢
  clear hK
  obtain ⟨W, hW⟩ : ∃ W, w.alloc (.cells #[.int .i64 n, .int .i64 tm, .int .i64 vt, .int .i64 s, .int .i64 t, .slice va l.length vc] 26) = W := ⟨_, rfl⟩
  rw [hW] at HJ C HB
  have c3 := HJ.out.cell (j := 3) rfl
  have c4 := HJ.out.cell (j := 4) rfl
  have c5 := HJ.out.cell (j := 5) rfl
  go_enter Tryd.func8, Tryd.ntmps8
  go_wp2_with fail
  refine C.out.mono ?_
  rintro e w1 ⟨rfl, a1, a2, a3⟩
  clear c3 c4 c5
  have A1 := hid a1
  have A2 : Hid (KeptBut2 lo hi w w1) := fun j t cs hne hb => a2 j t cs hne (hb.on HB.out hb.lt)
  have A3 : Hid (Below lo w w1) := (HB.out.mono hw).trans a3
  clear a1 a2 a3
  go_wp2
  go_ret
  exact ⟨rfl, A1.out, A2.out, A3.out⟩
set_option maxRecDepth 1000000 in
theorem heldJour_any (n tm vt s t : Int) (ao : Option Addr) (N cap m : Nat) (hm : m ≤ 10000000) (hl : N ≤ 1048576) (w : World) (ha : EntsAt w ao (marksE m N)) :
    Calls Tryd.prog 9 #[.agg #[.int .i64 n, .int .i64 tm, .int .i64 vt, .int .i64 s, .int .i64 t, .slice ao N cap], .int .i64 m] w fun e w' => e = .returned (.int .i64 ((m + 3 * N : Nat) : Int)) ∧ Below w.heap.size w w' := by
  have bw := below_more (Below.refl w.heap.size w) (.cells #[.int .i64 n, .int .i64 tm, .int .i64 vt, .int .i64 s, .int .i64 t, .slice ao N cap] 26)
  have HJ : Hid (BlockIs (w.alloc (.cells #[.int .i64 n, .int .i64 tm, .int .i64 vt, .int .i64 s, .int .i64 t, .slice ao N cap] 26)) w.heap.size 26 [.int .i64 n, .int .i64 tm, .int .i64 vt, .int .i64 s, .int .i64 t, .slice ao N cap]) := heap_alloc_new w _
  have C := hid (heldLog_any s t ao N cap m hm hl _ (ha.on bw))
  have HB := hid bw
  clear bw ha
  obtain ⟨K, hK⟩ : ∃ K, m + 3 * N = K := ⟨_, rfl⟩
  rw [hK] at C ⊢
  have hK1 : K ≤ 20000000 := by omega
  clear hK
  obtain ⟨W, hW⟩ : ∃ W, w.alloc (.cells #[.int .i64 n, .int .i64 tm, .int .i64 vt, .int .i64 s, .int .i64 t, .slice ao N cap] 26) = W := ⟨_, rfl⟩
  rw [hW] at HJ C HB
  have c3 := HJ.out.cell (j := 3) rfl
  have c4 := HJ.out.cell (j := 4) rfl
  have c5 := HJ.out.cell (j := 5) rfl
  go_enter Tryd.func9, Tryd.ntmps9
  go_wp2_with fail
  refine C.out.mono ?_
  rintro e w1 ⟨rfl, b1⟩
  have B1 := hid (below_via HB.out b1)
  clear c3 c4 c5 b1
  go_wp2
  go_ret
  exact ⟨rfl, B1.out⟩
end Go.Proofs.YthiifhfcognedaaDoor
