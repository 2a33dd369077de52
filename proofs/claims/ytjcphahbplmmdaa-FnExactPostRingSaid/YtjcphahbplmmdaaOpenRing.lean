/-
  A ring that came in, read as data: its slots lie one behind the other.
-/
import Derived.Test.YtjcphahbplmmdaaOpenSlotS
namespace Go.Proofs.Ytjcphahbplmmdaa
open Go.ChangeShapes Go.WideShapes Go.RowKit Go.Deep

set_option maxRecDepth 1000000 in
theorem ring_cells1 : Try.prog.cellsOf 43 = 3 := by kernel_rfl
set_option maxRecDepth 1000000 in
theorem ring_fields {H : Type} {enc : TypeId × Value → H} {P : Program} {W : World} {base : Nat} {sp : Nat → Bool} {held : Bool} {fuel : Nat} {t : TypeId} {f0 f1 f2 : Field} {cs : List Value} {x : DataW H × List MemPlace} (ht : P.underlying t = some (.struct #[f0, f1, f2])) (h : DataW.trod enc P W base sp held fuel t cs = some x) :
    ∃ y0 y1 y2 n, cs.length = P.cellsOf t ∧ DataW.trod enc P W base sp held n f0.type ((cs.drop f0.offset).take (P.cellsOf f0.type)) = some y0 ∧ DataW.trod enc P W base sp held n f1.type ((cs.drop f1.offset).take (P.cellsOf f1.type)) = some y1 ∧
      DataW.trod enc P W base sp held n f2.type ((cs.drop f2.offset).take (P.cellsOf f2.type)) = some y2 := by
  obtain ⟨xs, n, _, _, hl, hlen, hf⟩ := DataW.trod_struct ht h
  match xs, hlen with
  | [y0, y1, y2], _ => exact ⟨y0, y1, y2, n, hl, by simpa using hf 0 f0 rfl, by simpa using hf 1 f1 rfl, by simpa using hf 2 f2 rfl⟩

set_option maxRecDepth 1000000 in
/-- a ring as a parameter -/
theorem open_ring {H : Type} {enc : TypeId × Value → H} {W : World} {r : Reach} {b0 base : Nat} {sp : Nat → Bool} {held : Bool} {v : Value} {d : DataW H} {ps : List MemPlace} (hval : Value.okWide Try.prog W r b0 43 v) (hd : DataW.Trod enc Try.prog W base sp held 43 v d ps) :
    ∃ s t ao l cap, v = .agg #[.slice ao l.length cap, .int .i64 s, .int .i64 t] ∧ (-9223372036854775808 ≤ s ∧ s ≤ 9223372036854775807) ∧ (-9223372036854775808 ≤ t ∧ t ≤ 9223372036854775807) ∧ l.length ≤ cap ∧ cap ≤ maxLen ∧ SlotsAt W ao l ∧ SlotsFit l := by
  obtain ⟨cs, rfl, _⟩ := okWide_struct Try.underlying43 hval
  obtain ⟨fuel, hf⟩ := hd
  obtain ⟨y0, y1, y2, n, hl, h0, h1, h2⟩ := ring_fields Try.underlying43 hf
  rw [ring_cells1] at hl
  obtain ⟨c⟩ := cs
  have hl' : c.length = 3 := by simpa [Value.cells] using hl
  match c, hl' with
  | [x0, x1, x2], _ =>
    simp only [Value.cells, slot_cells3, slot_cellsS] at h0 h1 h2
    obtain ⟨s, e1, _, s1⟩ := DataW.trod_int Try.underlying3 h1
    obtain ⟨t, e2, _, s2⟩ := DataW.trod_int Try.underlying3 h2
    obtain ⟨ao, l, cap, e0, r⟩ := open_slotRow h0
    simp at e0 e1 e2
    subst e0 e1 e2
    exact ⟨s, t, ao, l, cap, rfl, bounds_i64 s1, bounds_i64 s2, r⟩
end Go.Proofs.Ytjcphahbplmmdaa
