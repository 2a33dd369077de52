/-
  LoseDisk of spec and of impl in one form.
-/
import Derived.Test.YtbbohfagnnobgaaJoint29
import Derived.Test.YtbbohfagnnobgaaJoint51
import Derived.Test.YtbbohfagnnobgaaJoint55
namespace Go.Proofs.Ytbbohfagnnobgaa
open Go.RowKit

theorem loseAns_small {l : List FileD} {zs : List Int} (hl : l.length ≤ 1048576) : (loseAns l zs).1.length ≤ 1048576 := by
  unfold loseAns
  split
  · rw [loseTo_length (Nat.le_refl _)]; exact hl
  · exact Nat.zero_le _
theorem specLoseDisk_o (ao : Option Addr) (l : List FileD) (cap : Nat) (lo : Option Addr) (zs : List Int) (lcap : Nat) (hl : l.length ≤ 1048576) (hzl : zs.length ≤ 1048576) (w : World) (ha : FilesAt w ao l) (hz : IntsAt w lo zs) :
    Calls Try.prog 48 #[.agg #[.slice ao l.length cap], .slice lo zs.length lcap] w fun e w' => ∃ va vc, e = .returned (.tuple #[.agg #[.slice va (loseAns l zs).1.length vc], .bool (loseAns l zs).2]) ∧ OwnAt w' 77 (fileCells (loseAns l zs).1) (loseAns l zs).1.length va w.heap.size w'.heap.size ∧ Below w.heap.size w w' := by
  refine (specLoseDisk_any ao l cap lo zs lcap hl hzl w ha hz).mono ?_
  rintro e w' ⟨v, rfl, ho, hb⟩
  obtain ⟨va, vc, rfl, ho'⟩ := own_of_row ho
  exact ⟨va, vc, rfl, ho', hb⟩
theorem implLoseDisk_o (ao : Option Addr) (l : List FileD) (cap : Nat) (lo : Option Addr) (zs : List Int) (lcap : Nat) (hl : l.length ≤ 1048576) (hzl : zs.length ≤ 1048576) (w : World) (ha : FilesAt w ao l) (hz : IntsAt w lo zs) :
    Calls Try.prog 46 #[.agg #[.slice ao l.length cap], .slice lo zs.length lcap] w fun e w' => ∃ va vc, e = .returned (.tuple #[.agg #[.slice va (loseAns l zs).1.length vc], .bool (loseAns l zs).2]) ∧ OwnAt w' 77 (fileCells (loseAns l zs).1) (loseAns l zs).1.length va w.heap.size w'.heap.size ∧ Below w.heap.size w w' := by
  unfold loseAns
  cases hd : diskOk l with
  | true =>
    refine (implLoseDisk_yes ao l cap lo zs lcap hzl hd w ha hz).mono ?_
    rintro e w' ⟨g, hg, rfl, hk, hb⟩
    have hlen : (loseTo l zs l.length).length = l.length := loseTo_length (Nat.le_refl _)
    refine ⟨some ⟨g, 0, none⟩, l.length, ?_, own_of_block hg hk, hb⟩
    simp only [if_true, hlen]
  | false =>
    refine (implLoseDisk_no ao l cap lo zs.length lcap (by omega) hd w ha).mono ?_
    rintro e w' ⟨rfl, hb⟩
    exact ⟨_, _, rfl, Or.inl rfl, hb⟩
end Go.Proofs.Ytbbohfagnnobgaa
