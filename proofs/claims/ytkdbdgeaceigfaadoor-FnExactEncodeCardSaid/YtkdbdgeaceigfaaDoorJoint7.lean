/-
  A message that came in, read as data.
-/
import Derived.Test.YtkdbdgeaceigfaaDoorJoint1
import Derived.Test.YtkdbdgeaceigfaaDoorJoint3
import Derived.Test.YtkdbdgeaceigfaaDoorJoint6
namespace Go.Proofs.YtkdbdgeaceigfaaDoor
open Go.ChangeShapes Go.WideShapes Go.RowKit Go.Deep

set_option maxRecDepth 1000000 in
theorem msg_cells1 : Tryd.prog.cellsOf 25 = 12 := by kernel_rfl
set_option maxRecDepth 1000000 in
theorem msg_cells4 : Tryd.prog.cellsOf 4 = 1 := by kernel_rfl
set_option maxRecDepth 1000000 in
theorem msg_fields {H : Type} {enc : TypeId × Value → H} {P : Program} {W : World} {base : Nat} {sp : Nat → Bool} {held : Bool} {fuel : Nat} {t : TypeId} {f0 f1 f2 f3 f4 f5 f6 f7 f8 f9 f10 f11 : Field} {cs : List Value} {x : DataW H × List MemPlace} (ht : P.underlying t = some (.struct #[f0, f1, f2, f3, f4, f5, f6, f7, f8, f9, f10, f11])) (h : DataW.trod enc P W base sp held fuel t cs = some x) :
    ∃ y0 y1 y2 y3 y4 y5 y6 y7 y8 y9 y10 y11 n, cs.length = P.cellsOf t ∧ DataW.trod enc P W base sp held n f0.type ((cs.drop f0.offset).take (P.cellsOf f0.type)) = some y0 ∧ DataW.trod enc P W base sp held n f1.type ((cs.drop f1.offset).take (P.cellsOf f1.type)) = some y1 ∧ DataW.trod enc P W base sp held n f2.type ((cs.drop f2.offset).take (P.cellsOf f2.type)) = some y2 ∧ DataW.trod enc P W base sp held n f3.type ((cs.drop f3.offset).take (P.cellsOf f3.type)) = some y3 ∧ DataW.trod enc P W base sp held n f4.type ((cs.drop f4.offset).take (P.cellsOf f4.type)) = some y4 ∧ DataW.trod enc P W base sp held n f5.type ((cs.drop f5.offset).take (P.cellsOf f5.type)) = some y5 ∧ DataW.trod enc P W base sp held n f6.type ((cs.drop f6.offset).take (P.cellsOf f6.type)) = some y6 ∧ DataW.trod enc P W base sp held n f7.type ((cs.drop f7.offset).take (P.cellsOf f7.type)) = some y7 ∧ DataW.trod enc P W base sp held n f8.type ((cs.drop f8.offset).take (P.cellsOf f8.type)) = some y8 ∧ DataW.trod enc P W base sp held n f9.type ((cs.drop f9.offset).take (P.cellsOf f9.type)) = some y9 ∧ DataW.trod enc P W base sp held n f10.type ((cs.drop f10.offset).take (P.cellsOf f10.type)) = some y10 ∧ DataW.trod enc P W base sp held n f11.type ((cs.drop f11.offset).take (P.cellsOf f11.type)) = some y11 := by
  obtain ⟨xs, n, _, _, hl, hlen, hf⟩ := DataW.trod_struct ht h
  match xs, hlen with
  | [y0, y1, y2, y3, y4, y5, y6, y7, y8, y9, y10, y11], _ => exact ⟨y0, y1, y2, y3, y4, y5, y6, y7, y8, y9, y10, y11, n, hl, by simpa using hf 0 f0 rfl, by simpa using hf 1 f1 rfl, by simpa using hf 2 f2 rfl, by simpa using hf 3 f3 rfl, by simpa using hf 4 f4 rfl, by simpa using hf 5 f5 rfl, by simpa using hf 6 f6 rfl, by simpa using hf 7 f7 rfl, by simpa using hf 8 f8 rfl, by simpa using hf 9 f9 rfl, by simpa using hf 10 f10 rfl, by simpa using hf 11 f11 rfl⟩

set_option maxRecDepth 1000000 in
set_option maxHeartbeats 1000000 in
/-- a message as a parameter -/
theorem open_msg {H : Type} {enc : TypeId × Value → H} {W : World} {r : Reach} {b0 base : Nat} {sp : Nat → Bool} {held : Bool} {v : Value} {dw : DataW H} {ps : List MemPlace} (hval : Value.okWide Tryd.prog W r b0 25 v) (hd : DataW.Trod enc Tryd.prog W base sp held 25 v dw ps) :
    ∃ (d : MsgD) (ao : Option Addr) (ac : Nat) (bo : Option Addr) (bc : Nat), v = .agg #[.int .i64 d.kind, .int .i64 d.src, .int .i64 d.dst, .int .i64 d.term, .int .i64 d.index, .int .i64 d.logTerm, .int .i64 d.commit, .bool d.ok, .slice ao d.ents.length ac, .slice bo d.conf.length bc, .string d.data, .bool d.last] ∧ d.Fits ∧ (d.ents.length ≤ ac ∧ ac ≤ maxLen ∧ EntsAt W ao d.ents ∧ EntsFit d.ents) ∧ d.conf.length ≤ bc ∧ bc ≤ maxLen ∧ IntsAt W bo d.conf ∧ IntsFit d.conf := by
  obtain ⟨cs, rfl, _⟩ := okWide_struct Tryd.underlying25 hval
  obtain ⟨fuel, hf⟩ := hd
  obtain ⟨y0, y1, y2, y3, y4, y5, y6, y7, y8, y9, y10, y11, n, hl, h0, h1, h2, h3, h4, h5, h6, h7, h8, h9, h10, h11⟩ := msg_fields Tryd.underlying25 hf
  rw [msg_cells1] at hl
  obtain ⟨c⟩ := cs
  have hl' : c.length = 12 := by simpa [Value.cells] using hl
  match c, hl' with
  | [x0, x1, x2, x3, x4, x5, x6, x7, x8, x9, x10, x11], _ =>
    simp only [Value.cells, ent_cells3, snap_cells9, msg_cells4, log_cellsS, snap_cellsI] at h0 h1 h2 h3 h4 h5 h6 h7 h8 h9 h10 h11
    obtain ⟨k0, e0, _, s0⟩ := DataW.trod_int Tryd.underlying3 h0
    obtain ⟨k1, e1, _, s1⟩ := DataW.trod_int Tryd.underlying3 h1
    obtain ⟨k2, e2, _, s2⟩ := DataW.trod_int Tryd.underlying3 h2
    obtain ⟨k3, e3, _, s3⟩ := DataW.trod_int Tryd.underlying3 h3
    obtain ⟨k4, e4, _, s4⟩ := DataW.trod_int Tryd.underlying3 h4
    obtain ⟨k5, e5, _, s5⟩ := DataW.trod_int Tryd.underlying3 h5
    obtain ⟨k6, e6, _, s6⟩ := DataW.trod_int Tryd.underlying3 h6
    obtain ⟨k7, e7, _⟩ := DataW.trod_bool Tryd.underlying4 h7
    obtain ⟨ao, l, ac, e8, r⟩ := open_ents h8
    obtain ⟨bo, zs, bc, e9, r'⟩ := open_intCells h9
    obtain ⟨k10, e10, _, s10⟩ := DataW.trod_string Tryd.underlying9 h10
    obtain ⟨k11, e11, _⟩ := DataW.trod_bool Tryd.underlying4 h11
    simp at e0 e1 e2 e3 e4 e5 e6 e7 e8 e9 e10 e11
    subst e0 e1 e2 e3 e4 e5 e6 e7 e8 e9 e10 e11
    exact ⟨⟨k0, k1, k2, k3, k4, k5, k6, k7, l, zs, k10, k11⟩, ao, ac, bo, bc, rfl, ⟨bounds_i64 s0, bounds_i64 s1, bounds_i64 s2, bounds_i64 s3, bounds_i64 s4, bounds_i64 s5, bounds_i64 s6, s10⟩, r, r'⟩
end Go.Proofs.YtkdbdgeaceigfaaDoor
