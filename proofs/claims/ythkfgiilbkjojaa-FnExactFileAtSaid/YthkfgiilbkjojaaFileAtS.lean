/-
  The walk of spec.FileAt: what it answers.
-/
import Derived.Test.YthkfgiilbkjojaaAtS
namespace Go.Proofs.Ythkfgiilbkjojaa
open Go.RowKit

set_option maxRecDepth 1000000 in
theorem specFileAt_any (ao : Option Addr) (l : List FileD) (cap : Nat) (name : ByteArray) (hl : l.length ≤ 1048576) (w : World) (ha : FilesAt w ao l) :
    Calls Try.prog 26 #[.agg #[.slice ao l.length cap], .string name] w fun e w' => ((∃ (k : Nat) (hk : k < l.length), FirstAt l name k ∧ e = .returned (.tuple #[.string l[k].text, .bool true])) ∨ (NoneAt l name ∧ e = .returned (.tuple #[.string ByteArray.empty, .bool false]))) ∧ Below w.heap.size w w' := by
  have HA := hid ha
  have HB := hid (below_more (Below.refl w.heap.size w) (.cells #[.slice ao l.length cap] 26))
  have HX := (show Hid (BlockIs (w.alloc (.cells #[.slice ao l.length cap] 26)) w.heap.size 26 [.slice ao l.length cap]) from heap_alloc_new w _)
  have C := hid (fun w ha => l03At_any ao l cap name hl w ha)
  clear ha
  go_enter Try.func26, Try.ntmps26
  go_wp2_with fail
  refine (C.out _ (HA.out.on HB.out)).mono ?_
  rintro e w1 ⟨(⟨k, hfirst, rfl⟩ | ⟨hnone, rfl⟩), b1⟩
  · have hk := hfirst.1
    have hk' : (k : Int) < (l.length : Int) := by omega
    have hk0 : ¬ (k : Int) < 0 := by omega
    have hne : l ≠ [] := by intro e; rw [e] at hk; simp at hk
    have B1 := hid (below_via HB.out b1)
    have X1 := (HX.out.on b1 HX.out.lt).cell (j := 0) rfl
    obtain ⟨b, off, rfl, hc⟩ := HA.out.on B1.out hne
    obtain ⟨x0, x1, x2⟩ := hc k hk
    have HF := hid hfirst
    clear hc x0 x2 b1 C HX HB hfirst
    go_wp2
    go_ret2
    exact ⟨Or.inl ⟨k, hk, HF.out, rfl⟩, B1.out⟩
  · have B1 := hid (below_via HB.out b1)
    have HN := hid hnone
    clear b1 C HX HB hnone
    go_wp2
    go_ret2
    exact ⟨Or.inr ⟨HN.out, rfl⟩, B1.out⟩
end Go.Proofs.Ythkfgiilbkjojaa
