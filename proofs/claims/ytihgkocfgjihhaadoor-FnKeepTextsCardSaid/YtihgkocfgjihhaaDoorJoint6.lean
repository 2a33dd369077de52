/-
  A pick out of a list of numbers that was just laid.
-/
import Derived.Test.YtihgkocfgjihhaaDoorJoint3
import Derived.Test.YtihgkocfgjihhaaDoorJoint4
import Derived.Test.YtihgkocfgjihhaaDoorJoint5
namespace Go.Proofs.YtihgkocfgjihhaaDoor
open Go.RowKit

theorem ints_laid (zs : List Int) (w : World) (t : TypeId) : Ints (w.alloc (.cells (zs.map (Value.int .i64)).toArray t)) w.heap.size zs := by
  intro j hj
  rw [World.cell?_alloc_mark]
  simp [hj]
theorem pickI_any (C : Nat) (zs : List Int) (h0 : 0 < zs.length) (h1 : zs.length ≤ 1000000) (t : TypeId) (w : World) (g : Nat) (hg : w.heap.size = g) (hc : CurAt w C) :
    Calls Tryd.prog 46 #[.pointer (some ⟨C, 0, none⟩), .slice (some ⟨g, 0, none⟩) zs.length zs.length] (w.alloc (.cells (zs.map (Value.int .i64)).toArray t)) fun e w' => ∃ x : Int, e = .returned (.int .i64 x) ∧ x ∈ zs ∧ CurAt w' C ∧ w.grownBy w' (some C) := by
  subst hg
  refine (l01PickInt_any C w.heap.size zs zs.length h0 h1 hc.lt _ (hc.kept (World.grownBy_alloc _ _ none) (fun _ e => by cases e)) (ints_laid zs w t)).mono ?_
  rintro e w' ⟨j, hj, rfl, hk, hg⟩
  exact ⟨_, rfl, List.getElem_mem hj, hk, (World.grownBy_alloc w _ (some C)).trans hg⟩
end Go.Proofs.YtihgkocfgjihhaaDoor
