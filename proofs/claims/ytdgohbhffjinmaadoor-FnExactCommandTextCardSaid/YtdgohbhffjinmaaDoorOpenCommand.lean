/-
  Command that came in, read as data: one of them, and a row.
-/
import Derived.Test.YtdgohbhffjinmaaDoorDataCommand
import Derived.Test.YtdgohbhffjinmaaDoorRows
import Derived.Deep.Strs
import Derived.ChangeSame
import Derived.OpenShut
namespace Go.Proofs.YtdgohbhffjinmaaDoor
open Go.ChangeShapes Go.WideShapes Go.RowKit Go.Deep

set_option maxRecDepth 1000000 in
theorem command_cellsE : Tryd.prog.cellsOf 23 = 6 := by kernel_rfl
set_option maxRecDepth 1000000 in
theorem command_cells9 : Tryd.prog.cellsOf 9 = 1 := by kernel_rfl
set_option maxRecDepth 1000000 in
theorem command_cells3 : Tryd.prog.cellsOf 3 = 1 := by kernel_rfl
set_option maxRecDepth 1000000 in
theorem command_fields {H : Type} {enc : TypeId × Value → H} {P : Program} {W : World} {base : Nat} {sp : Nat → Bool} {held : Bool} {fuel : Nat} {t : TypeId} {f0 f1 f2 f3 f4 f5 : Field} {cs : List Value} {x : DataW H × List MemPlace} (ht : P.underlying t = some (.struct #[f0, f1, f2, f3, f4, f5])) (h : DataW.trod enc P W base sp held fuel t cs = some x) :
    ∃ y0 y1 y2 y3 y4 y5 n, cs.length = P.cellsOf t ∧ DataW.trod enc P W base sp held n f0.type ((cs.drop f0.offset).take (P.cellsOf f0.type)) = some y0 ∧ DataW.trod enc P W base sp held n f1.type ((cs.drop f1.offset).take (P.cellsOf f1.type)) = some y1 ∧ DataW.trod enc P W base sp held n f2.type ((cs.drop f2.offset).take (P.cellsOf f2.type)) = some y2 ∧ DataW.trod enc P W base sp held n f3.type ((cs.drop f3.offset).take (P.cellsOf f3.type)) = some y3 ∧ DataW.trod enc P W base sp held n f4.type ((cs.drop f4.offset).take (P.cellsOf f4.type)) = some y4 ∧ DataW.trod enc P W base sp held n f5.type ((cs.drop f5.offset).take (P.cellsOf f5.type)) = some y5 := by
  obtain ⟨xs, n, _, _, hl, hlen, hf⟩ := DataW.trod_struct ht h
  match xs, hlen with
  | [y0, y1, y2, y3, y4, y5], _ => exact ⟨y0, y1, y2, y3, y4, y5, n, hl, by simpa using hf 0 f0 rfl, by simpa using hf 1 f1 rfl, by simpa using hf 2 f2 rfl, by simpa using hf 3 f3 rfl, by simpa using hf 4 f4 rfl, by simpa using hf 5 f5 rfl⟩

set_option maxRecDepth 1000000 in
theorem open_commandCells {H : Type} {enc : TypeId × Value → H} {W : World} {base : Nat} {sp : Nat → Bool} {held : Bool} {fuel : Nat} {cs : List Value} {x : DataW H × List MemPlace} (h : DataW.trod enc Tryd.prog W base sp held fuel 23 cs = some x) :
    ∃ e : CommandD, cs = commandEnc e ∧ e.Fits := by
  obtain ⟨y0, y1, y2, y3, y4, y5, n, hl, h0, h1, h2, h3, h4, h5⟩ := command_fields Tryd.underlying23 h
  rw [command_cellsE] at hl
  match cs, hl with
  | [c0, c1, c2, c3, c4, c5], _ =>
    simp only [command_cells3, command_cells9] at h0 h1 h2 h3 h4 h5
    obtain ⟨k0, e0, _, s0⟩ := DataW.trod_int Tryd.underlying3 h0
    obtain ⟨k1, e1, _, s1⟩ := DataW.trod_int Tryd.underlying3 h1
    obtain ⟨k2, e2, _, s2⟩ := DataW.trod_int Tryd.underlying3 h2
    obtain ⟨k3, e3, _, s3⟩ := DataW.trod_string Tryd.underlying9 h3
    obtain ⟨k4, e4, _, s4⟩ := DataW.trod_string Tryd.underlying9 h4
    obtain ⟨k5, e5, _, s5⟩ := DataW.trod_int Tryd.underlying3 h5
    simp at e0 e1 e2 e3 e4 e5
    subst e0 e1 e2 e3 e4 e5
    exact ⟨⟨k0, k1, k2, k3, k4, k5⟩, rfl, bounds_i64 s0, bounds_i64 s1, bounds_i64 s2, s3, s4, bounds_i64 s5⟩

set_option maxRecDepth 1000000 in
/-- one of them as a parameter -/
theorem open_command {H : Type} {enc : TypeId × Value → H} {W : World} {r : Reach} {b0 base : Nat} {sp : Nat → Bool} {held : Bool} {v : Value} {d : DataW H} {ps : List MemPlace} (hval : Value.okWide Tryd.prog W r b0 23 v) (hd : DataW.Trod enc Tryd.prog W base sp held 23 v d ps) :
    ∃ e : CommandD, v = .agg #[.int .i64 e.op, .int .i64 e.token, .int .i64 e.seq, .string e.key, .string e.val, .int .i64 e.ver] ∧ e.Fits := by
  obtain ⟨cs, rfl, _⟩ := okWide_struct Tryd.underlying23 hval
  obtain ⟨fuel, hf⟩ := hd
  obtain ⟨a, e, r⟩ := open_commandCells hf
  refine ⟨a, ?_, r⟩
  obtain ⟨c⟩ := cs
  have e' : c = commandEnc a := by simpa [Value.cells] using e
  rw [e']
  rfl
end Go.Proofs.YtdgohbhffjinmaaDoor
