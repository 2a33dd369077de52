/-
  What a drawer keeps: a pick out of a list that was just laid.
-/
import Derived.Test.YtihgkocfgjihhaaDoorJoint6
import Derived.Test.YtihgkocfgjihhaaDoorJoint7
namespace Go.Proofs.YtihgkocfgjihhaaDoor
open Go.RowKit

theorem strs_at (zs : List ByteArray) (w : World) (t : TypeId) : Strs (w.alloc (.cells (zs.map Value.string).toArray t)) w.heap.size zs := by
  intro j hj
  rw [World.cell?_alloc_mark]
  simp [hj]
theorem pickS_any (C : Nat) (zs : List ByteArray) (h0 : 0 < zs.length) (h1 : zs.length ≤ 1000000) (B : Nat) (hB : ∀ s ∈ zs, s.size ≤ B) (t : TypeId) (w : World) (g : Nat) (hg : w.heap.size = g) (hc : CurAt w C) :
    Calls Tryd.prog 45 #[.pointer (some ⟨C, 0, none⟩), .slice (some ⟨g, 0, none⟩) zs.length zs.length] (w.alloc (.cells (zs.map Value.string).toArray t)) fun e w' => ∃ s : ByteArray, e = .returned (.string s) ∧ s.size ≤ B ∧ CurAt w' C ∧ w.grownBy w' (some C) := by
  subst hg
  refine (l01Pick_any C w.heap.size zs zs.length h0 h1 hc.lt _ (hc.kept (World.grownBy_alloc _ _ none) (fun _ e => by cases e)) (strs_at zs w t)).mono ?_
  rintro e w' ⟨j, hj, rfl, hk, hg⟩
  exact ⟨_, rfl, hB _ (List.getElem_mem hj), hk, (World.grownBy_alloc w _ (some C)).trans hg⟩
end Go.Proofs.YtihgkocfgjihhaaDoor
