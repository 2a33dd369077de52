/-
  spec.LoseDisk at every disk: one sentence.
-/
import Derived.Test.YthkfgiilbkjojabJoint42
import Derived.Test.YthkfgiilbkjojabJoint43
namespace Go.Proofs.Ythkfgiilbkjojab
open Go.RowKit

/-- what LoseDisk answers -/
def loseAns (l : List FileD) (zs : List Int) : List FileD × Bool := if diskOk l = true then (loseTo l zs l.length, true) else ([], false)

theorem specLoseDisk_any (ao : Option Addr) (l : List FileD) (cap : Nat) (lo : Option Addr) (zs : List Int) (lcap : Nat) (hl : l.length ≤ 1048576) (hzl : zs.length ≤ 1048576) (w : World) (ha : FilesAt w ao l) (hz : IntsAt w lo zs) :
    Calls Try.prog 25 #[.agg #[.slice ao l.length cap], .slice lo zs.length lcap] w fun e w' => ∃ v, e = .returned (.tuple #[.agg #[v], .bool (loseAns l zs).2]) ∧ w'.ownsRow w.heap.size 63 3 v (loseAns l zs).1.length (fileCells (loseAns l zs).1) ∧ Below w.heap.size w w' := by
  unfold loseAns
  cases hd : diskOk l with
  | true => exact specLoseDisk_yes ao l cap lo zs lcap hzl hd w ha hz
  | false =>
    refine (specLoseDisk_no ao l cap lo zs.length lcap (by omega) hd w ha).mono ?_
    rintro e w' ⟨rfl, hb⟩
    exact ⟨_, rfl, ⟨rfl, Or.inl ⟨rfl, rfl⟩⟩, hb⟩
end Go.Proofs.Ythkfgiilbkjojab
