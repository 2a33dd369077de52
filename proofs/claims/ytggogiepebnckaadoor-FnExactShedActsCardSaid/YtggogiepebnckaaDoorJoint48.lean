/-
  spec.ShedActs, impl.ShedActs in the form of the exact laws.
-/
import Derived.Test.YtggogiepebnckaaDoorJoint32
import Derived.Test.YtggogiepebnckaaDoorJoint47
namespace Go.Proofs.YtggogiepebnckaaDoor
open Go.RowKit

theorem specShed_o (ao : Option Addr) (l : List FileD) (cap : Nat) (hl : l.length ≤ 1048576) (hsm : ∀ f ∈ l, f.text.size ≤ 1048576) (hsn : ∀ f ∈ l, f.name.size ≤ 1048576) (w : World) (ha : FilesAt w ao l) :
    Calls Tryd.prog 18 #[.agg #[.slice ao l.length cap]] w fun e w' => ∃ va vc, e = .returned (.slice va (shedActs l).length vc) ∧ OwnAt w' 82 (actCells (shedActs l)) (shedActs l).length va w.heap.size w'.heap.size ∧ Below w.heap.size w w' := by
  refine (specShed_any ao l cap hl hsm hsn w ha).mono ?_
  rintro e w' ⟨va, vc, he, ho, hb⟩
  exact ⟨va, vc, he, own_acts ho, hb⟩
theorem implShed_o (ao : Option Addr) (l : List FileD) (cap : Nat) (hl : l.length ≤ 1048576) (hsm : ∀ f ∈ l, f.text.size ≤ 1048576) (hsn : ∀ f ∈ l, f.name.size ≤ 1048576) (w : World) (ha : FilesAt w ao l) (ht : Steps w) :
    Calls Tryd.prog 19 #[.agg #[.slice ao l.length cap]] w fun e w' => ∃ va vc, e = .returned (.slice va (shedActs l).length vc) ∧ OwnAt w' 82 (actCells (shedActs l)) (shedActs l).length va w.heap.size w'.heap.size ∧ Below w.heap.size w w' := by
  refine (implShed_any ao l cap hl hsm hsn w ha ht).mono ?_
  rintro e w' ⟨va, vc, he, ho, hb⟩
  exact ⟨va, vc, he, own_acts ho, hb⟩
/-- a disk whose newest snapshot is there is a right one -/
theorem shed_few {l : List FileD} : (shedActs l).length ≤ 31 := by
  unfold shedActs
  split
  · exact Nat.zero_le _
  · rename_i s hs
    have hd := newest_disk hs
    rw [diskOk, Bool.and_eq_true, decide_eq_true_eq] at hd
    rw [List.length_append]
    have h1 := newA_length l
    have h2 := dropsOf_length (isOther (s.ix : Int)) l
    omega
end Go.Proofs.YtggogiepebnckaaDoor
