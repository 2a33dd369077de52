/-
  What PostRing and TakeRing answer, in memory of the call's own.
-/
import Derived.Test.YtbajffpkfjkolaaPlainPost
import Derived.Test.YtbajffpkfjkolaaWheelSet
import Derived.Test.YtbajffpkfjkolaaOwnAt
namespace Go.Proofs.Ytbajffpkfjkolaa
open Go.RowKit

def PostRDid (l : List SlotD) (s t : Int) (x : ByteArray) (w : World) (e : Ending) (w' : World) : Prop :=
  ∃ va vc, e = .returned (.tuple #[.agg #[.slice va (postL l s t x).length vc, .int .i64 (postH l s t x), .int .i64 t], .bool (postOk l s t x)]) ∧ (postL l s t x).length ≤ vc ∧ OwnAt w' 42 (slotCells (postL l s t x)) (postL l s t x).length va w.heap.size w'.heap.size ∧ Below w.heap.size w w'
theorem post_no {l : List SlotD} {s t : Int} {x : ByteArray} {w w' : World} {va : Option Addr} {vc : Nat} (h : postOk l s t x = false) (hc : l.length ≤ vc) (ho : OwnAt w' 42 (slotCells l) l.length va w.heap.size w'.heap.size) (hb : Below w.heap.size w w') :
    PostRDid l s t x w (.returned (.tuple #[.agg #[.slice va l.length vc, .int .i64 s, .int .i64 t], .bool false])) w' := by
  unfold PostRDid postL postH
  rw [h]
  exact ⟨va, vc, rfl, hc, ho, hb⟩
theorem post_yes {l : List SlotD} {h u N g vc : Nat} {x : ByteArray} {w w' : World} {r : List Value} (hok : postOk l h u x = true) (hN : (h + 1) % l.length = N) (hc : l.length ≤ vc) (hg : w.heap.size ≤ g) (hk : BlockIs w' g 42 (slotCells (l.set h ⟨1, x⟩) ++ r)) (hb : Below w.heap.size w w') :
    PostRDid l h u x w (.returned (.tuple #[.agg #[.slice (some ⟨g, 0, none⟩) l.length vc, .int .i64 N, .int .i64 u], .bool true])) w' := by
  unfold PostRDid postL postH
  rw [hok, if_pos rfl, if_pos rfl, Int.toNat_natCast, List.length_set, hN]
  exact ⟨_, _, rfl, hc, Or.inr ⟨g, r, rfl, hg, hk.lt, hk⟩, hb⟩
def TakeRDid (l : List SlotD) (s t : Int) (w : World) (e : Ending) (w' : World) : Prop :=
  ∃ va vc, e = .returned (.tuple #[.agg #[.slice va (takeL l s t).length vc, .int .i64 s, .int .i64 (takeT l s t)], .string (takeS l s t), .bool (takeOk l s t)]) ∧ (takeL l s t).length ≤ vc ∧ OwnAt w' 42 (slotCells (takeL l s t)) (takeL l s t).length va w.heap.size w'.heap.size ∧ Below w.heap.size w w'
theorem take_no {l : List SlotD} {s t : Int} {w w' : World} {va : Option Addr} {vc : Nat} (h : takeOk l s t = false) (hc : l.length ≤ vc) (ho : OwnAt w' 42 (slotCells l) l.length va w.heap.size w'.heap.size) (hb : Below w.heap.size w w') :
    TakeRDid l s t w (.returned (.tuple #[.agg #[.slice va l.length vc, .int .i64 s, .int .i64 t], .string ByteArray.empty, .bool false])) w' := by
  unfold TakeRDid takeL takeT takeS
  rw [h]
  exact ⟨va, vc, rfl, hc, ho, hb⟩
theorem take_yes {l : List SlotD} {h u N g vc : Nat} {w w' : World} {r : List Value} (hu : u < l.length) (hok : takeOk l h u = true) (hN : (u + 1) % l.length = N) (hc : l.length ≤ vc) (hg : w.heap.size ≤ g) (hk : BlockIs w' g 42 (slotCells (l.set u slot0) ++ r)) (hb : Below w.heap.size w w') :
    TakeRDid l h u w (.returned (.tuple #[.agg #[.slice (some ⟨g, 0, none⟩) l.length vc, .int .i64 h, .int .i64 N], .string l[u].text, .bool true])) w' := by
  unfold TakeRDid takeL takeT takeS
  rw [hok, if_pos rfl, if_pos rfl, if_pos rfl, Int.toNat_natCast, List.length_set, hN, slotAt_eq hu]
  exact ⟨_, _, rfl, hc, Or.inr ⟨g, r, rfl, hg, hk.lt, hk⟩, hb⟩
end Go.Proofs.Ytbajffpkfjkolaa
