/-
  The walk of laws.eqSeg: what is alike is found alike.
-/
import Derived.Test.YtgnoojbbicbklabDataSeg
import Derived.Test.YtgnoojbbicbklabRows
namespace Go.Proofs.Ytgnoojbbicbklab
open Go.RowKit

set_option maxRecDepth 1000000 in
theorem eqSeg_same (f : SegD) (w : World) :
    Calls Try.prog 6 #[.agg #[.int .i64 f.num, .int .i64 f.ack, .int .i64 f.flags, .string f.body], .agg #[.int .i64 f.num, .int .i64 f.ack, .int .i64 f.flags, .string f.body]] w fun e w' => e = .returned (.bool true) ∧ Below w.heap.size w w' := by
  have hb : Hid (∀ (o p : Obj), Below w.heap.size w ((w.alloc o).alloc p)) := fun o p => ((Below.refl _ w).alloc (Nat.le_refl _) _).alloc (by simp [World.alloc, -World.alloc_eq]) _
  go_enter Try.func6, Try.ntmps6
  go_wp2
  go_ret
  exact ⟨rfl, hb.out _ _⟩
end Go.Proofs.Ytgnoojbbicbklab
