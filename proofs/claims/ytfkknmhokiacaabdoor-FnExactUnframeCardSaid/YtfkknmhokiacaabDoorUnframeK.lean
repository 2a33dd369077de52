/-
  What a reader of frames answers, and the row that it grows.
-/
import Derived.Test.YtfkknmhokiacaabDoorRows
import Derived.Test.YtfkknmhokiacaabDoorPlainFrame
import Derived.Test.YtfkknmhokiacaabDoorPlainRows
import Derived.WalkKit
namespace Go.Proofs.YtfkknmhokiacaabDoor
open Go.RowKit

theorem unframe_info9 : (Tryd.prog.info? 9).map (fun i => (i.zero, i.size, i.bytes)) = some (some (.string ByteArray.empty), 1, 16) := by kernel_rfl

/-- what both answer -/
def unframeAns (s : ByteArray) (w : World) (e : Ending) (w' : World) : Prop :=
  ∃ v, e = .returned (.tuple #[v, .int .i64 (ufE s)]) ∧ w'.ownsRow w.heap.size 9 1 v (ufT s).length (st (ufT s)) ∧ Below w.heap.size w w'

theorem unframe_done {s : ByteArray} {pre : List (Nat × Nat)} {k : Nat} {v : Value} {w w' : World} (hs : s.size ≤ 20000) (hall : ufs s 0 = pre) (hk : k = endOf pre) (ho : w'.ownsRow w.heap.size 9 1 v pre.length (st (recs s pre))) (hb : Below w.heap.size w w') :
    unframeAns s w (.returned (.tuple #[v, .int .i64 k])) w' := by
  subst hall hk
  refine ⟨v, ?_, ?_, hb⟩
  · rw [ufE, if_neg (by omega)]
  · rw [ufT, if_neg (by omega), recs_length]; exact ho

theorem unframe_step {s : ByteArray} {w wr wq w1 : World} {v v' : Value} {B : Obj} {pre : List (Nat × Nat)} {a b : Nat} (hown : wq.ownsRow w.heap.size 9 1 v pre.length (st (recs s pre)))
    (hown' : w1.ownsRow w.heap.size 9 1 v' (pre.length + 1) (st (recs s pre) ++ [.string (s.extract a b)])) (hgrow : (wq.alloc B).grownBy w1 v.ownBlock) (hb : Below w.heap.size w wr) (hb2 : Below wr.heap.size wr wq) :
    w1.ownsRow w.heap.size 9 1 v' (pre ++ [(a, b)]).length (st (recs s (pre ++ [(a, b)]))) ∧ Below w.heap.size w w1 := by
  have hbq := hb.trans (hb2.mono hb.size)
  refine ⟨?_, (hbq.alloc hbq.size _).grown hgrow (by have := hbq.size; simp; omega) (fun k hk => (hown.lt k hk).1)⟩
  rw [recs_snoc, st_append]
  simpa [st] using hown'

theorem kept_onS {w w2 : World} {base : Nat} {e : TypeId} {v : Value} {n : Nat} {xs : List Value} (h : w.ownsRow base e 1 v n xs) (hb : Below w.heap.size w w2) : w2.ownsRow base e 1 v n xs := by
  refine h.kept (grown_of_below hb none) ?_
  cases v.ownBlock with
  | none => exact Or.inl rfl
  | some g => exact Or.inr (by simp)
end Go.Proofs.YtfkknmhokiacaabDoor
