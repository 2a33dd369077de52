/-
  The walk of laws.eqDgram: what is alike is found alike.
-/
import Derived.Test.YtpknpodmoeaggabDataDgram
import Derived.Test.YtpknpodmoeaggabRows
namespace Go.Proofs.Ytpknpodmoeaggab
open Go.RowKit

set_option maxRecDepth 1000000 in
theorem eqDgram_same (f : DgramD) (w : World) :
    Calls Try.prog 9 #[.agg #[.int .i64 f.src, .int .i64 f.dst, .int .i64 f.ident, .int .i64 f.place, .bool f.more, .string f.body], .agg #[.int .i64 f.src, .int .i64 f.dst, .int .i64 f.ident, .int .i64 f.place, .bool f.more, .string f.body]] w fun e w' => e = .returned (.bool true) ∧ Below w.heap.size w w' := by
  have hb : Hid (∀ (o p : Obj), Below w.heap.size w ((w.alloc o).alloc p)) := fun o p => ((Below.refl _ w).alloc (Nat.le_refl _) _).alloc (by simp [World.alloc, -World.alloc_eq]) _
  go_enter Try.func9, Try.ntmps9
  go_wp2
  go_ret
  exact ⟨rfl, hb.out _ _⟩
end Go.Proofs.Ytpknpodmoeaggab
