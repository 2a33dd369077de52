/-
  The walk of laws.eqCommand: what is alike is found alike.
-/
import Derived.Test.YtdgohbhffjinmaaDataCommand
import Derived.Test.YtdgohbhffjinmaaRows
namespace Go.Proofs.Ytdgohbhffjinmaa
open Go.RowKit

set_option maxRecDepth 1000000 in
theorem eqCommand_same (f : CommandD) (w : World) :
    Calls Try.prog 8 #[.agg #[.int .i64 f.op, .int .i64 f.token, .int .i64 f.seq, .string f.key, .string f.val, .int .i64 f.ver], .agg #[.int .i64 f.op, .int .i64 f.token, .int .i64 f.seq, .string f.key, .string f.val, .int .i64 f.ver]] w fun e w' => e = .returned (.bool true) ∧ Below w.heap.size w w' := by
  have hb : Hid (∀ (o p : Obj), Below w.heap.size w ((w.alloc o).alloc p)) := fun o p => ((Below.refl _ w).alloc (Nat.le_refl _) _).alloc (by simp [World.alloc, -World.alloc_eq]) _
  go_enter Try.func8, Try.ntmps8
  go_wp2
  go_ret
  exact ⟨rfl, hb.out _ _⟩
end Go.Proofs.Ytdgohbhffjinmaa
