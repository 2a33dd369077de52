/-
  spec.NewestSnap, impl.NewestSnap in the form of the exact laws.
-/
import Derived.Test.YtihgkocfgjihhaaGreatDoorJoint29
import Derived.Test.YtihgkocfgjihhaaGreatDoorJoint37
import Derived.Test.YtihgkocfgjihhaaGreatDoorJoint46
namespace Go.Proofs.YtihgkocfgjihhaaGreatDoor
open Go.RowKit

theorem newest_small {l : List FileD} : (snapZs (newestSnap l)).length ≤ 4 := by
  have key : ∀ (m : List FileD) (o : Option SnapD), (snapZs o).length ≤ 4 → (snapZs (m.foldl newer o)).length ≤ 4 := by
    intro m
    induction m with
    | nil => intro o h; exact h
    | cons f m ih =>
      intro o h
      refine ih _ ?_
      unfold newer
      split
      · exact h
      · rename_i s hs
        have h4 := (fileSnap_conf hs).1
        split
        · exact h4
        · split
          · exact h4
          · exact h
  unfold newestSnap
  split
  · exact key l none (Nat.zero_le _)
  · exact Nat.zero_le _
theorem specNewest_o (ao : Option Addr) (l : List FileD) (cap : Nat) (hl : l.length ≤ 1048576) (hsm : ∀ f ∈ l, f.text.size ≤ 1048576) (hsn : ∀ f ∈ l, f.name.size ≤ 1048576) (w : World) (ha : FilesAt w ao l) :
    Calls Tryz.prog 41 #[.agg #[.slice ao l.length cap]] w fun e w' => ∃ va vc, e = .returned (.tuple #[snapV (snapIx (newestSnap l)) (snapTm (newestSnap l)) (.slice va (snapZs (newestSnap l)).length vc) (snapBd (newestSnap l)), .bool (newestSnap l).isSome]) ∧ OwnAt w' 3 (intCells (snapZs (newestSnap l))) (snapZs (newestSnap l)).length va w.heap.size w'.heap.size ∧ Below w.heap.size w w' := by
  refine (specNewest_any ao l cap hl hsm hsn w ha).mono ?_
  rintro e w' ⟨va, vc, he, ho, hb⟩
  exact ⟨va, vc, he, own_ints ho, hb⟩
theorem implNewest_o (ao : Option Addr) (l : List FileD) (cap : Nat) (hl : l.length ≤ 1048576) (hsm : ∀ f ∈ l, f.text.size ≤ 1048576) (w : World) (ha : FilesAt w ao l) (ht : Steps w) :
    Calls Tryz.prog 46 #[.agg #[.slice ao l.length cap]] w fun e w' => ∃ va vc, e = .returned (.tuple #[snapV (snapIx (newestSnap l)) (snapTm (newestSnap l)) (.slice va (snapZs (newestSnap l)).length vc) (snapBd (newestSnap l)), .bool (newestSnap l).isSome]) ∧ OwnAt w' 3 (intCells (snapZs (newestSnap l))) (snapZs (newestSnap l)).length va w.heap.size w'.heap.size ∧ Below w.heap.size w w' := by
  refine (implNewest_any ao l cap hl hsm w ha ht).mono ?_
  rintro e w' ⟨va, vc, he, ho, hb⟩
  exact ⟨va, vc, he, own_ints ho, hb⟩
end Go.Proofs.YtihgkocfgjihhaaGreatDoor
