/-
  Known that came in, read as data: one of them, and a row.
-/
import Derived.Test.YtneociicjidcnaaDataKnown
import Derived.Test.YtneociicjidcnaaRows
import Derived.Deep.Strs
import Derived.ChangeSame
import Derived.OpenShut
namespace Go.Proofs.Ytneociicjidcnaa
open Go.ChangeShapes Go.WideShapes Go.RowKit Go.Deep

set_option maxRecDepth 1000000 in
theorem known_cellsE : Try.prog.cellsOf 50 = 2 := by kernel_rfl
set_option maxRecDepth 1000000 in
theorem known_cells9 : Try.prog.cellsOf 9 = 1 := by kernel_rfl
set_option maxRecDepth 1000000 in
theorem known_cells3 : Try.prog.cellsOf 3 = 1 := by kernel_rfl
set_option maxRecDepth 1000000 in
theorem known_fields {H : Type} {enc : TypeId × Value → H} {P : Program} {W : World} {base : Nat} {sp : Nat → Bool} {held : Bool} {fuel : Nat} {t : TypeId} {f0 f1 : Field} {cs : List Value} {x : DataW H × List MemPlace} (ht : P.underlying t = some (.struct #[f0, f1])) (h : DataW.trod enc P W base sp held fuel t cs = some x) :
    ∃ y0 y1 n, cs.length = P.cellsOf t ∧ DataW.trod enc P W base sp held n f0.type ((cs.drop f0.offset).take (P.cellsOf f0.type)) = some y0 ∧ DataW.trod enc P W base sp held n f1.type ((cs.drop f1.offset).take (P.cellsOf f1.type)) = some y1 := by
  obtain ⟨xs, n, _, _, hl, hlen, hf⟩ := DataW.trod_struct ht h
  match xs, hlen with
  | [y0, y1], _ => exact ⟨y0, y1, n, hl, by simpa using hf 0 f0 rfl, by simpa using hf 1 f1 rfl⟩

set_option maxRecDepth 1000000 in
theorem open_knownCells {H : Type} {enc : TypeId × Value → H} {W : World} {base : Nat} {sp : Nat → Bool} {held : Bool} {fuel : Nat} {cs : List Value} {x : DataW H × List MemPlace} (h : DataW.trod enc Try.prog W base sp held fuel 50 cs = some x) :
    ∃ e : KnownD, cs = knownEnc e ∧ e.Fits := by
  obtain ⟨y0, y1, n, hl, h0, h1⟩ := known_fields Try.underlying50 h
  rw [known_cellsE] at hl
  match cs, hl with
  | [c0, c1], _ =>
    simp only [known_cells3] at h0 h1
    obtain ⟨k0, e0, _, s0⟩ := DataW.trod_int Try.underlying3 h0
    obtain ⟨k1, e1, _, s1⟩ := DataW.trod_int Try.underlying3 h1
    simp at e0 e1
    subst e0 e1
    exact ⟨⟨k0, k1⟩, rfl, bounds_i64 s0, bounds_i64 s1⟩

set_option maxRecDepth 1000000 in
/-- one of them as a parameter -/
theorem open_known {H : Type} {enc : TypeId × Value → H} {W : World} {r : Reach} {b0 base : Nat} {sp : Nat → Bool} {held : Bool} {v : Value} {d : DataW H} {ps : List MemPlace} (hval : Value.okWide Try.prog W r b0 50 v) (hd : DataW.Trod enc Try.prog W base sp held 50 v d ps) :
    ∃ e : KnownD, v = .agg #[.int .i64 e.addr, .int .i64 e.card] ∧ e.Fits := by
  obtain ⟨cs, rfl, _⟩ := okWide_struct Try.underlying50 hval
  obtain ⟨fuel, hf⟩ := hd
  obtain ⟨a, e, r⟩ := open_knownCells hf
  refine ⟨a, ?_, r⟩
  obtain ⟨c⟩ := cs
  have e' : c = knownEnc a := by simpa [Value.cells] using e
  rw [e']
  rfl
end Go.Proofs.Ytneociicjidcnaa
