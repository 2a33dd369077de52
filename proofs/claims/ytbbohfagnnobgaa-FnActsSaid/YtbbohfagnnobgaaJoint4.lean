/-
  The walk of spec.l03Named: one of eight names.
-/
import Derived.Test.YtbbohfagnnobgaaJoint3
namespace Go.Proofs.Ytbbohfagnnobgaa
open Go.RowKit

def eightNames : List ByteArray := [⟨#[97]⟩, ⟨#[98]⟩, ⟨#[99]⟩, ⟨#[106, 48]⟩, ⟨#[106, 49]⟩, ⟨#[106, 43]⟩, ⟨#[115, 48]⟩, ⟨#[115, 43]⟩]
theorem eightNames_ok : ∀ j (hj : j < eightNames.length), 1 ≤ eightNames[j].size ∧ eightNames[j].size ≤ 2 := by decide
theorem eightNames_at (w : World) (t : TypeId) : Strs (w.alloc (.cells #[.string ⟨#[97]⟩, .string ⟨#[98]⟩, .string ⟨#[99]⟩, .string ⟨#[106, 48]⟩, .string ⟨#[106, 49]⟩, .string ⟨#[106, 43]⟩, .string ⟨#[115, 48]⟩, .string ⟨#[115, 43]⟩] t)) w.heap.size eightNames := by
  intro j hj
  rw [World.cell?_alloc_mark]
  match j, hj with
  | 0, _ => rfl
  | 1, _ => rfl
  | 2, _ => rfl
  | 3, _ => rfl
  | 4, _ => rfl
  | 5, _ => rfl
  | 6, _ => rfl
  | 7, _ => rfl

set_option maxRecDepth 1000000 in
set_option maxHeartbeats 1000000 in
theorem l03Named_any (C : Nat) (w : World) (hc : CurAt w C) :
    Calls Try.prog 63 #[.pointer (some ⟨C, 0, none⟩)] w fun e w' => ∃ s : ByteArray, e = .returned (.string s) ∧ 1 ≤ s.size ∧ s.size ≤ 2 ∧ CurAt w' C ∧ w.grownBy w' (some C) := by
  have hCl := hc.lt
  have HC := (show Hid (CurAt w C) from hc)
  clear hc
  have K0 : Hid (CurAt (w.alloc (.cells #[.string ⟨#[97]⟩, .string ⟨#[98]⟩, .string ⟨#[99]⟩, .string ⟨#[106, 48]⟩, .string ⟨#[106, 49]⟩, .string ⟨#[106, 43]⟩, .string ⟨#[115, 48]⟩, .string ⟨#[115, 43]⟩] 9)) C) := HC.out.kept (World.grownBy_alloc w _ none) (fun k h => by cases h)
  have E0 := (show Hid _ from eightNames_at w 9)
  go_enter Try.func63, Try.ntmps63
  go_wp2_with fail
  refine (l01Pick_any C w.heap.size eightNames _ (by decide) (by decide) hCl _ K0.out E0.out).mono ?_
  rintro e w1 ⟨j, hj, rfl, k1, q1⟩
  have HN := (show Hid _ from eightNames_ok j hj)
  obtain ⟨nm, hnm⟩ : ∃ nm, eightNames[j] = nm := ⟨_, rfl⟩
  rw [hnm] at HN ⊢
  have K1 := (show Hid (CurAt w1 C) from k1)
  have Q1 : Hid (w.grownBy w1 (some C)) := (World.grownBy_alloc w _ (some C)).trans q1
  clear k1 q1 K0 E0 HC hnm
  go_wp2
  go_ret
  exact ⟨nm, rfl, HN.out.1, HN.out.2, K1.out, Q1.out⟩
end Go.Proofs.Ytbbohfagnnobgaa
