/-
  A list of numbers: one of its cells is written.
-/
import Derived.Test.YtkdbdgeaceigfaaRows
import Derived.Test.YtkdbdgeaceigfaaPlainInts
import Derived.Test.YtkdbdgeaceigfaaPlainRows
import Derived.BigQuiet
import Derived.OwnWalk
import Derived.Deep.LoopGhost
import Derived.WalkSmall
import Derived.WalkKit
namespace Go.Proofs.Ytkdbdgeaceigfaa
open Go.RowKit

theorem int_info : (Try.prog.info? 3).map (fun i => (i.zero, i.size, i.bytes)) = some (some (.int .i64 0), 1, 8) := by kernel_rfl
theorem made_ints (n : Nat) : (madeCells #[Value.int .i64 0] n).toList.length = n := by simp [madeCells]

/-- a number's cell is written -/
theorem put_int {w : World} {g k : Nat} {t : TypeId} {zs : List Int} {r : List Value} (z : Int) (h : BlockIs w g t (intCells zs ++ r)) (hk : zs.length = k) (hr : 0 < r.length) :
    (∃ x, w.cell? ⟨g, k, none⟩ = some x) ∧ w.frozen? ⟨g, k, none⟩ = false ∧ BlockIs (w.setCell ⟨g, k, none⟩ (.int .i64 z)) g t (intCells (zs ++ [z]) ++ r.drop 1) := by
  have hlen : (intCells zs).length = k := by simp [intCells, hk]
  match r, hr with
  | x :: r', _ =>
    have hs := h.set k (.int .i64 z)
    have e1 := set_one (intCells zs) (.int .i64 z) x r'
    rw [hlen] at e1
    rw [e1] at hs
    refine ⟨⟨x, h.cell ?_⟩, h.thaw k, ?_⟩
    · rw [List.getElem?_append_right (by omega), hlen, Nat.sub_self]; rfl
    · simpa [intCells] using hs
end Go.Proofs.Ytkdbdgeaceigfaa
