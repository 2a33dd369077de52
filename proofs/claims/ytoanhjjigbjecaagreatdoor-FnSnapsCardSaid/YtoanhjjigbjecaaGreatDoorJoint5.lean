/-
  A pick out of a list of numbers that was just laid.
  The walk of spec.l01Pick: one of the texts of a list.
  What a drawer keeps: a pick out of a list that was just laid.
-/
import Derived.Test.YtoanhjjigbjecaaGreatDoorJoint3
import Derived.Test.YtoanhjjigbjecaaGreatDoorJoint4
import Derived.Test.YtoanhjjigbjecaaGreatDoorJoint2
namespace Go.Proofs.YtoanhjjigbjecaaGreatDoor
open Go.RowKit

theorem ints_laid (zs : List Int) (w : World) (t : TypeId) : Ints (w.alloc (.cells (zs.map (Value.int .i64)).toArray t)) w.heap.size zs := by
  intro j hj
  rw [World.cell?_alloc_mark]
  simp [hj]
theorem pickI_any (C : Nat) (zs : List Int) (h0 : 0 < zs.length) (h1 : zs.length ≤ 1000000) (t : TypeId) (w : World) (g : Nat) (hg : w.heap.size = g) (hc : CurAt w C) :
    Calls Tryz.prog 105 #[.pointer (some ⟨C, 0, none⟩), .slice (some ⟨g, 0, none⟩) zs.length zs.length] (w.alloc (.cells (zs.map (Value.int .i64)).toArray t)) fun e w' => ∃ x : Int, e = .returned (.int .i64 x) ∧ x ∈ zs ∧ CurAt w' C ∧ w.grownBy w' (some C) := by
  subst hg
  refine (l01PickInt_any C w.heap.size zs zs.length h0 h1 hc.lt _ (hc.kept (World.grownBy_alloc _ _ none) (fun _ e => by cases e)) (ints_laid zs w t)).mono ?_
  rintro e w' ⟨j, hj, rfl, hk, hg⟩
  exact ⟨_, rfl, List.getElem_mem hj, hk, (World.grownBy_alloc w _ (some C)).trans hg⟩
end Go.Proofs.YtoanhjjigbjecaaGreatDoor

namespace Go.Proofs.YtoanhjjigbjecaaGreatDoor
open Go.RowKit

/-- a list of texts in a block of its own -/
def Strs (w : World) (g : Nat) (zs : List ByteArray) : Prop := ∀ j (hj : j < zs.length), w.cell? ⟨g, j, none⟩ = some (.string zs[j])

set_option maxRecDepth 1000000 in
set_option maxHeartbeats 1000000 in
theorem l01Pick_any (C g : Nat) (zs : List ByteArray) (cap : Nat) (hl : 0 < zs.length) (hl2 : zs.length ≤ 1000000) (hg : C < g) (w : World) (hc : CurAt w C) (hz : Strs w g zs) :
    Calls Tryz.prog 106 #[.pointer (some ⟨C, 0, none⟩), .slice (some ⟨g, 0, none⟩) zs.length cap] w fun e w' => ∃ (j : Nat) (hj : j < zs.length), e = .returned (.string zs[j]) ∧ CurAt w' C ∧ w.grownBy w' (some C) := by
  have HC := (show Hid (CurAt w C) from hc)
  have HZ := (show Hid (Strs w g zs) from hz)
  clear hc hz
  go_enter Tryz.func106, Tryz.ntmps106
  go_wp2_with fail
  refine (l01Below_any C (zs.length : Int) (by omega) (by omega) _ HC.out).mono ?_
  rintro e w1 ⟨x, rfl, x0, x1, k1, q1⟩
  obtain ⟨j, rfl⟩ : ∃ j : Nat, x = j := ⟨x.toNat, by omega⟩
  have hj : j < zs.length := by omega
  have cz : w1.cell? ⟨g, j, none⟩ = some (.string zs[j]) := q1.cell (HZ.out j hj) (by simp; omega)
  have K1 := (show Hid (CurAt w1 C) from k1)
  have Q1 := (show Hid _ from q1)
  clear k1 q1
  go_wp2
  go_ret
  exact ⟨j, hj, rfl, K1.out, Q1.out⟩
end Go.Proofs.YtoanhjjigbjecaaGreatDoor

namespace Go.Proofs.YtoanhjjigbjecaaGreatDoor
open Go.RowKit

theorem strs_at (zs : List ByteArray) (w : World) (t : TypeId) : Strs (w.alloc (.cells (zs.map Value.string).toArray t)) w.heap.size zs := by
  intro j hj
  rw [World.cell?_alloc_mark]
  simp [hj]
theorem pickS_any (C : Nat) (zs : List ByteArray) (h0 : 0 < zs.length) (h1 : zs.length ≤ 1000000) (B : Nat) (hB : ∀ s ∈ zs, s.size ≤ B) (t : TypeId) (w : World) (g : Nat) (hg : w.heap.size = g) (hc : CurAt w C) :
    Calls Tryz.prog 106 #[.pointer (some ⟨C, 0, none⟩), .slice (some ⟨g, 0, none⟩) zs.length zs.length] (w.alloc (.cells (zs.map Value.string).toArray t)) fun e w' => ∃ s : ByteArray, e = .returned (.string s) ∧ s.size ≤ B ∧ CurAt w' C ∧ w.grownBy w' (some C) := by
  subst hg
  refine (l01Pick_any C w.heap.size zs zs.length h0 h1 hc.lt _ (hc.kept (World.grownBy_alloc _ _ none) (fun _ e => by cases e)) (strs_at zs w t)).mono ?_
  rintro e w' ⟨j, hj, rfl, hk, hg⟩
  exact ⟨_, rfl, hB _ (List.getElem_mem hj), hk, (World.grownBy_alloc w _ (some C)).trans hg⟩
end Go.Proofs.YtoanhjjigbjecaaGreatDoor
