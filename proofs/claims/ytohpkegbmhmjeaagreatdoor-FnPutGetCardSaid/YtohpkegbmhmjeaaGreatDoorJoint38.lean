/-
  slices.Clone at a keep's rows.
-/
import Derived.Test.YtohpkegbmhmjeaaGreatDoorJoint1
import Derived.Shelf.SlicesE.Clone
import Derived.Shelf.SlGeneric
import Derived.Ground.SlgnProg
import Derived.WalkKit
namespace Go.Proofs
open Go.RowKit Go.Shelf
shelf_lay_g SlLaysE0.n41 Slgn 41 at Tryz 58 as Tryz.cloneS
shelf_lay_g SlLaysE0.n41 Slgn 41 at Tryz 59 as Tryz.cloneI
end Go.Proofs
namespace Go.Proofs.YtohpkegbmhmjeaaGreatDoor
open Go.RowKit

theorem cloneS_any (lo : Nat) (ao : Option Addr) (ac : Nat) (ls : List SessionD) (hl : ls.length ≤ 1048576) (w : World) (h : w.ownsRow lo 36 3 (.slice ao ls.length ac) ls.length (sessionCells ls)) :
    Calls Tryz.prog 58 #[.slice ao ls.length ac] w fun e w' => ∃ va vc, e = .returned (.slice va ls.length vc) ∧ w'.ownsRow w.heap.size 36 3 (.slice va ls.length vc) ls.length (sessionCells ls) ∧ Below w.heap.size w w' := by
  obtain ⟨i0, hi, hz0, hz1, hz2⟩ := info_parts toSession_info
  rcases h.2 with ⟨hv, h0⟩ | ⟨g, cp, cur, hv, hb, hh, hle, _, _, ht⟩
  · simp only [Value.slice.injEq] at hv
    obtain ⟨rfl, _, rfl⟩ := hv
    have C := AnyE.slices_Clone_nil Tryz.cloneS ls.length 0 w
    refine Calls.mono C ?_
    rintro e w' ⟨rfl, rfl⟩
    obtain rfl : ls = [] := List.length_eq_zero_iff.1 h0
    exact ⟨none, 0, rfl, ⟨rfl, Or.inl ⟨rfl, rfl⟩⟩, Below.refl _ _⟩
  · simp only [Value.slice.injEq] at hv
    obtain ⟨rfl, _, rfl⟩ := hv
    have hcur : cur.toList = sessionCells ls ++ cur.toList.drop (ls.length * 3) := by rw [← ht, List.take_append_drop]
    have hbk : BlockIs w g 36 (sessionCells ls ++ cur.toList.drop (ls.length * 3)) := by unfold BlockIs; rw [hh, ← hcur]
    have C := AnyE.slices_Clone Tryz.cloneS i0 _ 3 32 hi hz0 hz1 hz2 rfl (by decide) Tryz.sizeOf36 g 0 ls.length ac (sessionCells ls) w (sessionCells_length ls) (by unfold maxLen; omega) (by omega) (fun j u hu => by rw [Nat.zero_add]; exact hbk.cell (by rw [List.getElem?_append_left (List.getElem?_eq_some_iff.1 hu).1]; exact hu)) (sessionR_all ls)
    refine Calls.mono C ?_
    rintro e w' ⟨v', rfl, hr, _, hb'⟩
    obtain ⟨va, vc, rfl⟩ := row_shape hr
    exact ⟨va, vc, rfl, hr, hb'⟩
theorem cloneI_any (lo : Nat) (ao : Option Addr) (ac : Nat) (li : List ItemD) (hl : li.length ≤ 1048576) (w : World) (h : w.ownsRow lo 41 3 (.slice ao li.length ac) li.length (itemCells li)) :
    Calls Tryz.prog 59 #[.slice ao li.length ac] w fun e w' => ∃ va vc, e = .returned (.slice va li.length vc) ∧ w'.ownsRow w.heap.size 41 3 (.slice va li.length vc) li.length (itemCells li) ∧ Below w.heap.size w w' := by
  obtain ⟨i0, hi, hz0, hz1, hz2⟩ := info_parts toItem_info
  rcases h.2 with ⟨hv, h0⟩ | ⟨g, cp, cur, hv, hb, hh, hle, _, _, ht⟩
  · simp only [Value.slice.injEq] at hv
    obtain ⟨rfl, _, rfl⟩ := hv
    have C := AnyE.slices_Clone_nil Tryz.cloneI li.length 0 w
    refine Calls.mono C ?_
    rintro e w' ⟨rfl, rfl⟩
    obtain rfl : li = [] := List.length_eq_zero_iff.1 h0
    exact ⟨none, 0, rfl, ⟨rfl, Or.inl ⟨rfl, rfl⟩⟩, Below.refl _ _⟩
  · simp only [Value.slice.injEq] at hv
    obtain ⟨rfl, _, rfl⟩ := hv
    have hcur : cur.toList = itemCells li ++ cur.toList.drop (li.length * 3) := by rw [← ht, List.take_append_drop]
    have hbk : BlockIs w g 41 (itemCells li ++ cur.toList.drop (li.length * 3)) := by unfold BlockIs; rw [hh, ← hcur]
    have C := AnyE.slices_Clone Tryz.cloneI i0 _ 3 40 hi hz0 hz1 hz2 rfl (by decide) Tryz.sizeOf41 g 0 li.length ac (itemCells li) w (itemCells_length li) (by unfold maxLen; omega) (by omega) (fun j u hu => by rw [Nat.zero_add]; exact hbk.cell (by rw [List.getElem?_append_left (List.getElem?_eq_some_iff.1 hu).1]; exact hu)) (itemR_all li)
    refine Calls.mono C ?_
    rintro e w' ⟨v', rfl, hr, _, hb'⟩
    obtain ⟨va, vc, rfl⟩ := row_shape hr
    exact ⟨va, vc, rfl, hr, hb'⟩
end Go.Proofs.YtohpkegbmhmjeaaGreatDoor
