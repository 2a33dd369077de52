/-
  A log laid anew, in memory of its own.
-/
import Derived.Test.YtjkgjnpifdafaaaLogOwn
import Derived.Test.YtjkgjnpifdafaaaToLog
namespace Go.Proofs.Ytjkgjnpifdafaaa
open Go.RowKit

theorem toLog_o (s t : Int) (ao : Option Addr) (l : List EntD) (cap : Nat) (hl : l.length ≤ 1048576) (w : World) (ha : EntsAt w ao l) :
    Calls Try.prog 12 #[.agg #[.int .i64 s, .int .i64 t, .slice ao l.length cap]] w fun e w' => ∃ va vc, e = .returned (.agg #[.int .i64 s, .int .i64 t, .slice va l.length vc]) ∧ l.length ≤ vc ∧ OwnAt w' 35 (entCells l) l.length va w.heap.size w'.heap.size ∧ Below w.heap.size w w' := by
  refine (toLog_any s t ao l cap hl w ha).mono ?_
  rintro e w' ⟨g, hg, rfl, hk, hb⟩
  exact ⟨_, _, rfl, Nat.le_refl _, own_of_ents hg hk, hb⟩
end Go.Proofs.Ytjkgjnpifdafaaa
