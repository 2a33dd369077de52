/-
  Memory stands while orders are drawn.
-/
import Derived.Deep.Draws
import Derived.Maps.AppendAt
namespace Go.Proofs.Ytdgohbhffjinmaa
open Go

theorem grown_draws (w : World) (r : Option Nat) (n : Nat) : w.grownBy (w.drewN n) r := ⟨rfl, rfl, rfl, Nat.le_refl _, fun _ _ _ => rfl⟩
end Go.Proofs.Ytdgohbhffjinmaa
