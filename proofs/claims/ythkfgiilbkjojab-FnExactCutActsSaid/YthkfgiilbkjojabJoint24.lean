/-
  Lists of numbers in the exact laws, in one form.
-/
import Derived.Test.YthkfgiilbkjojabJoint19
import Derived.Test.YthkfgiilbkjojabJoint23
namespace Go.Proofs.Ythkfgiilbkjojab
open Go.RowKit

theorem toIntS_o (ao : Option Addr) (zs : List Int) (cap : Nat) (hl : zs.length ≤ 1048576) (w : World) (ha : IntsAt w ao zs) :
    Calls Try.prog 10 #[.slice ao zs.length cap] w fun e w' => ∃ g, e = .returned (.slice (some ⟨g, 0, none⟩) zs.length zs.length) ∧ w.heap.size ≤ g ∧ g < w'.heap.size ∧ BlockIs w' g 3 (intCells zs) ∧ Below w.heap.size w w' := by
  refine (toIntS_any ao zs cap hl w ha).mono ?_
  rintro e w' ⟨rfl, hk, hb⟩
  exact ⟨_, rfl, Nat.le_refl _, hk.lt, hk, hb⟩
theorem ints_of {w : World} {g : Nat} {t : TypeId} {zs : List Int} (h : BlockIs w g t (intCells zs)) : IntsAt w (some ⟨g, 0, none⟩) zs := intsAt_of (r := []) (by rw [List.append_nil]; exact h)
theorem markIntS_o (g : Nat) (zs : List Int) (cap m : Nat) (hm : m ≤ 10000000) (hl : zs.length ≤ 1048576) (w : World) (hb : BlockIs w g 3 (intCells zs)) :
    Calls Try.prog 17 #[.slice (some ⟨g, 0, none⟩) zs.length cap, .int .i64 m] w fun e w' => e = .returned (.int .i64 ((m + zs.length : Nat) : Int)) ∧ KeptBut g (g + 1) w w' ∧ Below g w w' := by
  refine (markIntS_any g zs cap m hm hl w hb).mono ?_
  rintro e w' ⟨rfl, _, hg⟩
  refine ⟨rfl, fun j t cs hj hbl => ?_, ⟨hg.os, hg.tape, hg.output, hg.size, fun k hk => hg.block k (Nat.lt_trans hk hb.lt) (fun e => ?_)⟩⟩
  · unfold BlockIs
    rw [hg.block j hbl.lt (fun e => hj (by simp at e; omega))]
    exact hbl
  · simp at e; omega
end Go.Proofs.Ythkfgiilbkjojab
