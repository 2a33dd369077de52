/-
  A keep that came in, read as data: its sessions and its items lie one behind the other.
-/
import Derived.Test.YtdgohbhffjinmaaOpenSessionS
import Derived.Test.YtdgohbhffjinmaaOpenItemS
namespace Go.Proofs.Ytdgohbhffjinmaa
open Go.ChangeShapes Go.WideShapes Go.RowKit Go.Deep

set_option maxRecDepth 1000000 in
theorem keep_cells1 : Try.prog.cellsOf 39 = 2 := by kernel_rfl
set_option maxRecDepth 1000000 in
theorem keep_fields {H : Type} {enc : TypeId × Value → H} {P : Program} {W : World} {base : Nat} {sp : Nat → Bool} {held : Bool} {fuel : Nat} {t : TypeId} {f0 f1 : Field} {cs : List Value} {x : DataW H × List MemPlace} (ht : P.underlying t = some (.struct #[f0, f1])) (h : DataW.trod enc P W base sp held fuel t cs = some x) :
    ∃ y0 y1 n, cs.length = P.cellsOf t ∧ DataW.trod enc P W base sp held n f0.type ((cs.drop f0.offset).take (P.cellsOf f0.type)) = some y0 ∧ DataW.trod enc P W base sp held n f1.type ((cs.drop f1.offset).take (P.cellsOf f1.type)) = some y1 := by
  obtain ⟨xs, n, _, _, hl, hlen, hf⟩ := DataW.trod_struct ht h
  match xs, hlen with
  | [y0, y1], _ => exact ⟨y0, y1, n, hl, by simpa using hf 0 f0 rfl, by simpa using hf 1 f1 rfl⟩

set_option maxRecDepth 1000000 in
/-- a keep as a parameter -/
theorem open_keep {H : Type} {enc : TypeId × Value → H} {W : World} {r : Reach} {b0 base : Nat} {sp : Nat → Bool} {held : Bool} {v : Value} {d : DataW H} {ps : List MemPlace} (hval : Value.okWide Try.prog W r b0 39 v) (hd : DataW.Trod enc Try.prog W base sp held 39 v d ps) :
    ∃ ao ls ac bo li bc, v = .agg #[.slice ao (List.length ls) ac, .slice bo (List.length li) bc] ∧ (ls.length ≤ ac ∧ ac ≤ maxLen ∧ SessionsAt W ao ls ∧ SessionsFit ls) ∧ (li.length ≤ bc ∧ bc ≤ maxLen ∧ ItemsAt W bo li ∧ ItemsFit li) := by
  obtain ⟨cs, rfl, _⟩ := okWide_struct Try.underlying39 hval
  obtain ⟨fuel, hf⟩ := hd
  obtain ⟨y0, y1, n, hl, h0, h1⟩ := keep_fields Try.underlying39 hf
  rw [keep_cells1] at hl
  obtain ⟨c⟩ := cs
  have hl' : c.length = 2 := by simpa [Value.cells] using hl
  match c, hl' with
  | [x0, x1], _ =>
    simp only [Value.cells, session_cellsS, item_cellsS] at h0 h1
    obtain ⟨ao, ls, ac, e0, r0⟩ := open_sessionRow h0
    obtain ⟨bo, li, bc, e1, r1⟩ := open_itemRow h1
    simp at e0 e1
    subst e0 e1
    exact ⟨ao, ls, ac, bo, li, bc, rfl, r0, r1⟩
end Go.Proofs.Ytdgohbhffjinmaa
