/-
  The walk of laws.eqCell: what is alike is found alike.
-/
import Derived.Test.YtneociicjidcnaaDoorDataCell
import Derived.Test.YtneociicjidcnaaDoorRows
namespace Go.Proofs.YtneociicjidcnaaDoor
open Go.RowKit

set_option maxRecDepth 1000000 in
theorem eqCell_same (f : CellD) (w : World) :
    Calls Tryd.prog 19 #[.agg #[.int .i64 f.dst, .int .i64 f.src, .int .i64 f.kd, .string f.body], .agg #[.int .i64 f.dst, .int .i64 f.src, .int .i64 f.kd, .string f.body]] w fun e w' => e = .returned (.bool true) ∧ Below w.heap.size w w' := by
  have hb : Hid (∀ (o p : Obj), Below w.heap.size w ((w.alloc o).alloc p)) := fun o p => ((Below.refl _ w).alloc (Nat.le_refl _) _).alloc (by simp [World.alloc, -World.alloc_eq]) _
  go_enter Tryd.func19, Tryd.ntmps19
  go_wp2
  go_ret
  exact ⟨rfl, hb.out _ _⟩
end Go.Proofs.YtneociicjidcnaaDoor
