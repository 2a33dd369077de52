/-
  An act that came in, read as data.
-/
import Derived.Test.YthkfgiilbkjojabJoint4
import Derived.Deep.Strs
import Derived.ChangeSame
import Derived.OpenShut
namespace Go.Proofs.Ythkfgiilbkjojab
open Go.ChangeShapes Go.WideShapes Go.RowKit Go.Deep

set_option maxRecDepth 1000000 in
theorem act_cellsA : Try.prog.cellsOf 50 = 4 := by kernel_rfl
set_option maxRecDepth 1000000 in
theorem act_cells9 : Try.prog.cellsOf 9 = 1 := by kernel_rfl
set_option maxRecDepth 1000000 in
theorem act_cells3 : Try.prog.cellsOf 3 = 1 := by kernel_rfl
/-- a kind that is a number -/
def ActD.KindFits (a : ActD) : Prop := -9223372036854775808 ≤ a.kind ∧ a.kind ≤ 9223372036854775807

set_option maxRecDepth 1000000 in
theorem four_fields {H : Type} {enc : TypeId × Value → H} {P : Program} {W : World} {base : Nat} {sp : Nat → Bool} {held : Bool} {fuel : Nat} {t : TypeId} {f0 f1 f2 f3 : Field} {cs : List Value} {x : DataW H × List MemPlace} (ht : P.underlying t = some (.struct #[f0, f1, f2, f3])) (h : DataW.trod enc P W base sp held fuel t cs = some x) :
    ∃ y0 y1 y2 y3 n, cs.length = P.cellsOf t ∧ DataW.trod enc P W base sp held n f0.type ((cs.drop f0.offset).take (P.cellsOf f0.type)) = some y0 ∧ DataW.trod enc P W base sp held n f1.type ((cs.drop f1.offset).take (P.cellsOf f1.type)) = some y1 ∧
      DataW.trod enc P W base sp held n f2.type ((cs.drop f2.offset).take (P.cellsOf f2.type)) = some y2 ∧ DataW.trod enc P W base sp held n f3.type ((cs.drop f3.offset).take (P.cellsOf f3.type)) = some y3 := by
  obtain ⟨xs, n, _, _, hl, hlen, hf⟩ := DataW.trod_struct ht h
  match xs, hlen with
  | [y0, y1, y2, y3], _ => exact ⟨y0, y1, y2, y3, n, hl, by simpa using hf 0 f0 rfl, by simpa using hf 1 f1 rfl, by simpa using hf 2 f2 rfl, by simpa using hf 3 f3 rfl⟩

set_option maxRecDepth 1000000 in
/-- four cells that read as an act -/
theorem open_actCells {H : Type} {enc : TypeId × Value → H} {W : World} {base : Nat} {sp : Nat → Bool} {held : Bool} {fuel : Nat} {cs : List Value} {x : DataW H × List MemPlace} (h : DataW.trod enc Try.prog W base sp held fuel 50 cs = some x) :
    ∃ a : ActD, cs = actEnc a ∧ a.Fits ∧ a.KindFits := by
  obtain ⟨y0, y1, y2, y3, n, hl, h0, h1, h2, h3⟩ := four_fields Try.underlying50 h
  rw [act_cellsA] at hl
  match cs, hl with
  | [c0, c1, c2, c3], _ =>
    simp only [act_cells9, act_cells3] at h0 h1 h2 h3
    obtain ⟨k, e0, _, s0⟩ := DataW.trod_int Try.underlying3 h0
    obtain ⟨s, e1, _, s1⟩ := DataW.trod_string Try.underlying9 h1
    obtain ⟨t, e2, _, s2⟩ := DataW.trod_string Try.underlying9 h2
    obtain ⟨u, e3, _, s3⟩ := DataW.trod_string Try.underlying9 h3
    simp at e0 e1 e2 e3
    subst e0 e1 e2 e3
    have hb := bounds_i64 s0
    exact ⟨⟨k, s, t, u⟩, rfl, ⟨s1, s2, s3⟩, hb⟩

set_option maxRecDepth 1000000 in
/-- an act as a parameter -/
theorem open_act {H : Type} {enc : TypeId × Value → H} {W : World} {r : Reach} {b0 base : Nat} {sp : Nat → Bool} {held : Bool} {v : Value} {d : DataW H} {ps : List MemPlace} (hval : Value.okWide Try.prog W r b0 50 v) (hd : DataW.Trod enc Try.prog W base sp held 50 v d ps) :
    ∃ a : ActD, v = a.value ∧ a.Fits ∧ a.KindFits := by
  obtain ⟨cs, rfl, _⟩ := okWide_struct Try.underlying50 hval
  obtain ⟨fuel, hf⟩ := hd
  obtain ⟨a, e, r⟩ := open_actCells hf
  refine ⟨a, ?_, r⟩
  obtain ⟨c⟩ := cs
  have e' : c = actEnc a := by simpa [Value.cells] using e
  rw [e']
  rfl
end Go.Proofs.Ythkfgiilbkjojab
