/-
  Rows of numbers that grow while a cursor goes on.
  What a drawer keeps: the cursor, the boxes of its own.
-/
import Derived.Test.YtohmfmajgehadaaGreatDoorJoint2
import Derived.Test.YtohmfmajgehadaaGreatDoorJoint1
namespace Go.Proofs.YtohmfmajgehadaaGreatDoor
open Go.RowKit

theorem places_info3 : (Tryz.prog.info? 3).map (fun i => (i.zero, i.size, i.bytes)) = some (some (.int .i64 0), 1, 8) := by kernel_rfl

/-- numbers in their cells -/
def is (l : List Int) : List Value := l.map (Value.int .i64)
theorem is_append (l r : List Int) : is (l ++ r) = is l ++ is r := by simp [is]

theorem kept_cur3 {w w2 : World} {base C : Nat} {v : Value} {n : Nat} {xs : List Value} (h : w.ownsRow base 3 1 v n xs) (hg : w.grownBy w2 (some C)) (hC : C < base) : w2.ownsRow base 3 1 v n xs := by
  refine h.kept hg ?_
  cases hv : v.ownBlock with
  | none => exact Or.inl rfl
  | some g =>
    refine Or.inr fun e => ?_
    have := (h.lt g hv).1
    simp at e
    omega

/-- the row and the cursor behind a round -/
theorem places_step {C B k : Nat} {l : List Int} {w wr w2 w1 : World} {v v' : Value} {O : Obj} {x : Int} (hC : C < B) (hCw : B ≤ w.heap.size)
    (hgr : w.grownBy wr (some C)) (k2 : CurAt w2 C) (q2 : wr.grownBy w2 (some C))
    (hown' : w1.ownsRow B 3 1 v' (k + 1) (is l ++ [.int .i64 x])) (hgrow : (w2.alloc O).grownBy w1 v.ownBlock) (hr : ∀ j, v.ownBlock = some j → w.heap.size ≤ j) :
    w1.ownsRow B 3 1 v' (k + 1) (is (l ++ [x])) ∧ CurAt w1 C ∧ w.grownBy w1 (some C) := by
  refine ⟨by rw [is_append]; exact hown', ?_, ?_⟩
  · exact (k2.kept (World.grownBy_alloc w2 O none) (fun j h => by cases h)).kept hgrow (fun j hj => by have := hr j hj; omega)
  · have q3 : w.grownBy w2 (some C) := hgr.trans q2
    have q4 : w.grownBy (w2.alloc O) (some C) := q3.trans (World.grownBy_alloc w2 O (some C))
    refine ⟨hgrow.os.trans q4.os, hgrow.tape.trans q4.tape, hgrow.output.trans q4.output, Nat.le_trans q4.size hgrow.size, fun j hj hne => ?_⟩
    rw [hgrow.block j (by have := q4.size; omega) (fun e => by have := hr j e.symm; omega)]
    exact q4.block j hj hne
end Go.Proofs.YtohmfmajgehadaaGreatDoor

namespace Go.Proofs.YtohmfmajgehadaaGreatDoor
open Go.RowKit

theorem BlockIs.cur {w w' : World} {b C : Nat} {t : TypeId} {cs : List Value} (h : BlockIs w b t cs) (hg : w.grownBy w' (some C)) (hb : C < b) : BlockIs w' b t cs := by
  unfold BlockIs
  rw [hg.block b h.lt (by simp; omega)]
  exact h
theorem CurAt.below {w w' : World} {C : Nat} (h : CurAt w C) (hb : Below w.heap.size w w') : CurAt w' C := h.kept (grown_of_below hb none) (fun _ e => by cases e)
theorem grown_below {w W W' : World} {C : Nat} (h : w.grownBy W (some C)) (hb : Below W.heap.size W W') : w.grownBy W' (some C) := h.trans (grown_of_below hb (some C))
theorem CurAt.set {w : World} {C b j : Nat} {v : Value} (h : CurAt w C) (hb : C < b) : CurAt (w.setCell ⟨b, j, none⟩ v) C := h.kept (grownBy_set w b j v) (fun k e => by cases e; exact hb)
theorem grown_far {w wr : World} {C b j : Nat} {v : Value} (h : w.grownBy wr (some C)) (hb : w.heap.size ≤ b) : w.grownBy (wr.setCell ⟨b, j, none⟩ v) (some C) :=
  ⟨h.os, h.tape, h.output, by have := h.size; simp [World.setCell]; omega, fun k hk hne => (Below.heap_setCell _ _ _ _ (by show k ≠ b; omega)).trans (h.block k hk hne)⟩
end Go.Proofs.YtohmfmajgehadaaGreatDoor
