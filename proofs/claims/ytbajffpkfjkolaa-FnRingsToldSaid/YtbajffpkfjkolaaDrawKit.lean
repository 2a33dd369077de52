/-
  What a drawer keeps: the cursor, the boxes of its own; a pick out of a list that was just laid.
-/
import Derived.Test.YtbajffpkfjkolaaCur
import Derived.Test.YtbajffpkfjkolaaBlock
import Derived.Test.YtbajffpkfjkolaaCurPickInt
import Derived.Test.YtbajffpkfjkolaaCurPick
import Derived.Test.YtbajffpkfjkolaaCurOnce
namespace Go.Proofs.Ytbajffpkfjkolaa
open Go.RowKit

theorem BlockIs.cur {w w' : World} {b C : Nat} {t : TypeId} {cs : List Value} (h : BlockIs w b t cs) (hg : w.grownBy w' (some C)) (hb : C < b) : BlockIs w' b t cs := by
  unfold BlockIs
  rw [hg.block b h.lt (by simp; omega)]
  exact h
theorem CurAt.below {w w' : World} {C : Nat} (h : CurAt w C) (hb : Below w.heap.size w w') : CurAt w' C := h.kept (grown_of_below hb none) (fun _ e => by cases e)
theorem grown_below {w W W' : World} {C : Nat} (h : w.grownBy W (some C)) (hb : Below W.heap.size W W') : w.grownBy W' (some C) := h.trans (grown_of_below hb (some C))
theorem CurAt.set {w : World} {C b j : Nat} {v : Value} (h : CurAt w C) (hb : C < b) : CurAt (w.setCell ⟨b, j, none⟩ v) C := h.kept (grownBy_set w b j v) (fun k e => by cases e; exact hb)
theorem grown_far {w wr : World} {C b j : Nat} {v : Value} (h : w.grownBy wr (some C)) (hb : w.heap.size ≤ b) : w.grownBy (wr.setCell ⟨b, j, none⟩ v) (some C) :=
  ⟨h.os, h.tape, h.output, by have := h.size; simp [World.setCell]; omega, fun k hk hne => (Below.heap_setCell _ _ _ _ (by show k ≠ b; omega)).trans (h.block k hk hne)⟩

theorem strs_at (zs : List ByteArray) (w : World) (t : TypeId) : Strs (w.alloc (.cells (zs.map Value.string).toArray t)) w.heap.size zs := by
  intro j hj
  rw [World.cell?_alloc_mark]
  simp [hj]
theorem ints_laid (zs : List Int) (w : World) (t : TypeId) : Ints (w.alloc (.cells (zs.map (Value.int .i64)).toArray t)) w.heap.size zs := by
  intro j hj
  rw [World.cell?_alloc_mark]
  simp [hj]
theorem pickS_any (C : Nat) (zs : List ByteArray) (h0 : 0 < zs.length) (h1 : zs.length ≤ 1000000) (B : Nat) (hB : ∀ s ∈ zs, s.size ≤ B) (t : TypeId) (w : World) (g : Nat) (hg : w.heap.size = g) (hc : CurAt w C) :
    Calls Try.prog 42 #[.pointer (some ⟨C, 0, none⟩), .slice (some ⟨g, 0, none⟩) zs.length zs.length] (w.alloc (.cells (zs.map Value.string).toArray t)) fun e w' => ∃ s : ByteArray, e = .returned (.string s) ∧ s.size ≤ B ∧ CurAt w' C ∧ w.grownBy w' (some C) := by
  subst hg
  refine (l01Pick_any C w.heap.size zs zs.length h0 h1 hc.lt _ (hc.kept (World.grownBy_alloc _ _ none) (fun _ e => by cases e)) (strs_at zs w t)).mono ?_
  rintro e w' ⟨j, hj, rfl, hk, hg⟩
  exact ⟨_, rfl, hB _ (List.getElem_mem hj), hk, (World.grownBy_alloc w _ (some C)).trans hg⟩
theorem pickI_any (C : Nat) (zs : List Int) (h0 : 0 < zs.length) (h1 : zs.length ≤ 1000000) (t : TypeId) (w : World) (g : Nat) (hg : w.heap.size = g) (hc : CurAt w C) :
    Calls Try.prog 28 #[.pointer (some ⟨C, 0, none⟩), .slice (some ⟨g, 0, none⟩) zs.length zs.length] (w.alloc (.cells (zs.map (Value.int .i64)).toArray t)) fun e w' => ∃ x : Int, e = .returned (.int .i64 x) ∧ x ∈ zs ∧ CurAt w' C ∧ w.grownBy w' (some C) := by
  subst hg
  refine (l01PickInt_any C w.heap.size zs zs.length h0 h1 hc.lt _ (hc.kept (World.grownBy_alloc _ _ none) (fun _ e => by cases e)) (ints_laid zs w t)).mono ?_
  rintro e w' ⟨j, hj, rfl, hk, hg⟩
  exact ⟨_, rfl, List.getElem_mem hj, hk, (World.grownBy_alloc w _ (some C)).trans hg⟩
end Go.Proofs.Ytbajffpkfjkolaa
