/-
  What a drawer keeps: the cursor, the boxes of its own.
  A keep's rows while a cursor goes on.
-/
import Derived.Test.YthnbkjbljogdpaaGreatDoorJoint2
import Derived.Test.YthnbkjbljogdpaaGreatDoorJoint1
namespace Go.Proofs.YthnbkjbljogdpaaGreatDoor
open Go.RowKit

theorem BlockIs.cur {w w' : World} {b C : Nat} {t : TypeId} {cs : List Value} (h : BlockIs w b t cs) (hg : w.grownBy w' (some C)) (hb : C < b) : BlockIs w' b t cs := by
  unfold BlockIs
  rw [hg.block b h.lt (by simp; omega)]
  exact h
theorem CurAt.below {w w' : World} {C : Nat} (h : CurAt w C) (hb : Below w.heap.size w w') : CurAt w' C := h.kept (grown_of_below hb none) (fun _ e => by cases e)
theorem grown_below {w W W' : World} {C : Nat} (h : w.grownBy W (some C)) (hb : Below W.heap.size W W') : w.grownBy W' (some C) := h.trans (grown_of_below hb (some C))
theorem CurAt.set {w : World} {C b j : Nat} {v : Value} (h : CurAt w C) (hb : C < b) : CurAt (w.setCell ⟨b, j, none⟩ v) C := h.kept (grownBy_set w b j v) (fun k e => by cases e; exact hb)
theorem grown_far {w wr : World} {C b j : Nat} {v : Value} (h : w.grownBy wr (some C)) (hb : w.heap.size ≤ b) : w.grownBy (wr.setCell ⟨b, j, none⟩ v) (some C) :=
  ⟨h.os, h.tape, h.output, by have := h.size; simp [World.setCell]; omega, fun k hk hne => (Below.heap_setCell _ _ _ _ (by show k ≠ b; omega)).trans (h.block k hk hne)⟩
end Go.Proofs.YthnbkjbljogdpaaGreatDoor

namespace Go.Proofs.YthnbkjbljogdpaaGreatDoor
open Go.RowKit

theorem row_cur {w w' : World} {base size n C : Nat} {t : TypeId} {v : Value} {xs : List Value} (h : w.ownsRow base t size v n xs) (hg : w.grownBy w' (some C)) (hC : C < base) : w'.ownsRow base t size v n xs := by
  refine h.kept hg ?_
  cases hv : v.ownBlock with
  | none => exact Or.inl rfl
  | some g =>
    refine Or.inr fun e => ?_
    cases e
    have := (h.lt _ hv).1
    omega
theorem KRows.cur {w w' : World} {lo C : Nat} {v u : Value} {ls : List SessionD} {li : List ItemD} (h : KRows w lo v u ls li) (hg : w.grownBy w' (some C)) (hC : C < lo) : KRows w' lo v u ls li := ⟨row_cur h.1 hg hC, row_cur h.2 hg hC⟩
/-- a block behind them is written -/
theorem row_behind {w : World} {base size n b j H : Nat} {t : TypeId} {v : Value} {xs : List Value} (h : w.ownsRow base t size v n xs) (hb : ∀ g, v.ownBlock = some g → g < H) (hH : H ≤ b) (u : Value) : (w.setCell ⟨b, j, none⟩ u).ownsRow base t size v n xs := by
  refine h.kept (grownBy_set w b j u) ?_
  cases hv : v.ownBlock with
  | none => exact Or.inl rfl
  | some g =>
    refine Or.inr fun e => ?_
    cases e
    have := hb _ hv
    omega
/-- the rows lie ahead of a place -/
def Ahead (v u : Value) (H : Nat) : Prop := ∀ g, v.ownBlock = some g ∨ u.ownBlock = some g → g < H
theorem KRows.behind {w : World} {lo b j H : Nat} {v u : Value} {ls : List SessionD} {li : List ItemD} (h : KRows w lo v u ls li) (hb : Ahead v u H) (hH : H ≤ b) (x : Value) : KRows (w.setCell ⟨b, j, none⟩ x) lo v u ls li :=
  ⟨row_behind h.1 (fun g hg => hb g (Or.inl hg)) hH x, row_behind h.2 (fun g hg => hb g (Or.inr hg)) hH x⟩
theorem KRows.ahead {w : World} {lo : Nat} {v u : Value} {ls : List SessionD} {li : List ItemD} (h : KRows w lo v u ls li) : Ahead v u w.heap.size := fun g hg => hg.elim (fun q => (h.1.lt g q).2) (fun q => (h.2.lt g q).2)
end Go.Proofs.YthnbkjbljogdpaaGreatDoor
