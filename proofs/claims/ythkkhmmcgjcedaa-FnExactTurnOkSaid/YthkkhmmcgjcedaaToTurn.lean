/-
  The walk of laws.toTurn.
-/
import Derived.Test.YthkkhmmcgjcedaaDataTurn
import Derived.Test.YthkkhmmcgjcedaaRows
namespace Go.Proofs.Ythkkhmmcgjcedaa
open Go.RowKit

set_option maxRecDepth 1000000 in
theorem toTurn_any (d : TurnD) (w : World) :
    Calls Try.prog 6 #[.agg #[.int .i64 d.kd, .int .i64 d.en, .int .i64 d.pl]] w fun e w' => e = .returned (.agg #[.int .i64 d.kd, .int .i64 d.en, .int .i64 d.pl]) ∧ Below w.heap.size w w' := by
  go_enter Try.func6, Try.ntmps6
  go_wp2
  refine bodyPost_ret (v := .agg #[.int .i64 d.kd, .int .i64 d.en, .int .i64 d.pl]) (by simp [results, Try.results6, go_sem]) rfl ⟨rfl, below_more (below_more (below_more (Below.refl _ w) _) _) _⟩
end Go.Proofs.Ythkkhmmcgjcedaa
