/-
  slices.Clone at ints.
-/
import Derived.Test.YtglibbpigmpanaaJoint1
import Derived.Shelf.SlicesE.Clone
import Derived.Shelf.SlGeneric
import Derived.Ground.SlgnProg
import Derived.WalkKit
namespace Go.Proofs
open Go.RowKit Go.Shelf
shelf_lay_g SlLaysE0.n41 Slgn 41 at Try 55 as Try.cloneN
end Go.Proofs
namespace Go.Proofs.Ytglibbpigmpanaa
open Go.RowKit

theorem cloneInts_any (ao : Option Addr) (ac : Nat) (zs : List Int) (hz : zs ≠ []) (hl : zs.length ≤ 1048576) (w : World) (h : IntsAt w ao zs) :
    Calls Try.prog 55 #[.slice ao zs.length ac] w fun e w' => ∃ va vc, e = .returned (.slice va zs.length vc) ∧ w'.ownsRow w.heap.size 3 1 (.slice va zs.length vc) zs.length (intCells zs) ∧ Below w.heap.size w w' := by
  obtain ⟨i0, hi, hz0, hz1, hz2⟩ := info_parts int_info
  obtain ⟨b, off, rfl, hc⟩ := h hz
  have C := AnyE.slices_Clone Try.cloneN i0 _ 1 8 hi hz0 hz1 hz2 rfl (by decide) Try.sizeOf3 b off zs.length ac (intCells zs) w (by simp [intCells]) (by unfold maxLen; omega) (by omega) (fun j u hu => by
    rw [intCells, List.getElem?_map, Option.map_eq_some_iff] at hu
    obtain ⟨z, hz, rfl⟩ := hu
    obtain ⟨hj, rfl⟩ := List.getElem?_eq_some_iff.1 hz
    exact hc j hj) (by intro u hu; rw [intCells, List.mem_map] at hu; obtain ⟨z, _, rfl⟩ := hu; rfl)
  refine Calls.mono C ?_
  rintro e w' ⟨v', rfl, hr, _, hb'⟩
  obtain ⟨va, vc, rfl⟩ := row_shape hr
  exact ⟨va, vc, rfl, hr, hb'⟩
end Go.Proofs.Ytglibbpigmpanaa
