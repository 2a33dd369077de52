/-
  What a drawer keeps: the cursor, the boxes of its own.
-/
import Derived.Test.YthdklbmachplmaaJoint19
import Derived.Test.YthdklbmachplmaaJoint1
namespace Go.Proofs.Ythdklbmachplmaa
open Go.RowKit

theorem BlockIs.cur {w w' : World} {b C : Nat} {t : TypeId} {cs : List Value} (h : BlockIs w b t cs) (hg : w.grownBy w' (some C)) (hb : C < b) : BlockIs w' b t cs := by
  unfold BlockIs
  rw [hg.block b h.lt (by simp; omega)]
  exact h
theorem CurAt.below {w w' : World} {C : Nat} (h : CurAt w C) (hb : Below w.heap.size w w') : CurAt w' C := h.kept (grown_of_below hb none) (fun _ e => by cases e)
theorem grown_below {w W W' : World} {C : Nat} (h : w.grownBy W (some C)) (hb : Below W.heap.size W W') : w.grownBy W' (some C) := h.trans (grown_of_below hb (some C))
theorem CurAt.set {w : World} {C b j : Nat} {v : Value} (h : CurAt w C) (hb : C < b) : CurAt (w.setCell ⟨b, j, none⟩ v) C := h.kept (grownBy_set w b j v) (fun k e => by cases e; exact hb)
theorem grown_far {w wr : World} {C b j : Nat} {v : Value} (h : w.grownBy wr (some C)) (hb : w.heap.size ≤ b) : w.grownBy (wr.setCell ⟨b, j, none⟩ v) (some C) :=
  ⟨h.os, h.tape, h.output, by have := h.size; simp [World.setCell]; omega, fun k hk hne => (Below.heap_setCell _ _ _ _ (by show k ≠ b; omega)).trans (h.block k hk hne)⟩
end Go.Proofs.Ythdklbmachplmaa
