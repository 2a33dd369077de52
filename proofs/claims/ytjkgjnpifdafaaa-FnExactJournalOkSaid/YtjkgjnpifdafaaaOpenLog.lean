/-
  A log that came in, read as data: its entries lie one behind the other.
-/
import Derived.Test.YtjkgjnpifdafaaaSzEnts
import Derived.Test.YtjkgjnpifdafaaaOpenEnts
import Derived.Deep.Strs
import Derived.ChangeSame
import Derived.OpenShut
namespace Go.Proofs.Ytjkgjnpifdafaaa
open Go.ChangeShapes Go.WideShapes Go.RowKit Go.Deep

set_option maxRecDepth 1000000 in
theorem log_cells1 : Try.prog.cellsOf 24 = 3 := by kernel_rfl
set_option maxRecDepth 1000000 in
/-- a log as a parameter -/
theorem open_log {H : Type} {enc : TypeId × Value → H} {W : World} {r : Reach} {b0 base : Nat} {sp : Nat → Bool} {held : Bool} {v : Value} {d : DataW H} {ps : List MemPlace} (hval : Value.okWide Try.prog W r b0 24 v) (hd : DataW.Trod enc Try.prog W base sp held 24 v d ps) :
    ∃ s t ao l cap, v = .agg #[.int .i64 s, .int .i64 t, .slice ao l.length cap] ∧ (-9223372036854775808 ≤ s ∧ s ≤ 9223372036854775807) ∧ (-9223372036854775808 ≤ t ∧ t ≤ 9223372036854775807) ∧ l.length ≤ cap ∧ cap ≤ maxLen ∧ EntsAt W ao l ∧ EntsFit l := by
  obtain ⟨cs, rfl, _⟩ := okWide_struct Try.underlying24 hval
  obtain ⟨fuel, hf⟩ := hd
  obtain ⟨y0, y1, y2, n, hl, h0, h1, h2⟩ := ent_fields Try.underlying24 hf
  rw [log_cells1] at hl
  obtain ⟨c⟩ := cs
  have hl' : c.length = 3 := by simpa [Value.cells] using hl
  match c, hl' with
  | [x0, x1, x2], _ =>
    simp only [Value.cells, ent_cells3, log_cellsS] at h0 h1 h2
    obtain ⟨s, e0, _, s0⟩ := DataW.trod_int Try.underlying3 h0
    obtain ⟨t, e1, _, s1⟩ := DataW.trod_int Try.underlying3 h1
    obtain ⟨ao, l, cap, e2, r⟩ := open_ents h2
    simp at e0 e1 e2
    subst e0 e1 e2
    exact ⟨s, t, ao, l, cap, rfl, bounds_i64 s0, bounds_i64 s1, r⟩
end Go.Proofs.Ytjkgjnpifdafaaa
