/-
  Plain facts on the texts of confs; rows of numbers in memory; nothing of the program stands here.
-/
import Derived.Test.YtjkgjnpifdafaaaPlainConf
import Derived.Test.YtjkgjnpifdafaaaPlainInts
import Derived.Test.YtjkgjnpifdafaaaPlainRows
namespace Go.Proofs.Ytjkgjnpifdafaaa
open Go.RowKit

theorem confText_yes {zs : List Int} (h : confOk zs = true) : confText zs = (⟨(confBytes zs).toArray⟩, true) := by rw [confText, if_pos h]
theorem confText_no {zs : List Int} (h : confOk zs = false) : confText zs = (ByteArray.empty, false) := by rw [confText, if_neg (by simp [h])]
theorem readConf_yes {s : ByteArray} (h : confOk (intsOf s.data.toList) = true) : readConf s = (intsOf s.data.toList, true) := by rw [readConf, if_pos h]
theorem readConf_no {s : ByteArray} (h : confOk (intsOf s.data.toList) = false) : readConf s = ([], false) := by rw [readConf, if_neg (by simp [h])]

theorem conf_byte {x : Int} (h1 : 1 ≤ x) (h4 : x ≤ 4) : IntKind.u8.wrap x = x := by
  rw [IntKind.wrap_u8]
  omega
/-- what both answer -/
def readConfAns (s : ByteArray) (w : World) (e : Ending) (w' : World) : Prop :=
  ∃ v, e = .returned (.tuple #[v, .bool (readConf s).2]) ∧ w'.ownsRow w.heap.size 3 1 v (readConf s).1.length (intCells (readConf s).1) ∧ Below w.heap.size w w'

theorem ints_row {w : World} {base : Nat} {ao : Option Addr} {n c : Nat} {zs : List Int} (hn : zs.length = n) (h : w.ownsRow base 3 1 (.slice ao n c) n (intCells zs)) : IntsAt w ao zs := by
  intro hne
  obtain ⟨_, va, vc, hv, hf⟩ := row_lie h
  simp only [Value.slice.injEq] at hv
  obtain ⟨rfl, _, _⟩ := hv
  have hp : 0 < zs.length := List.length_pos_iff.2 hne
  obtain ⟨g, e1, _, _, _, _, hc, _⟩ := hf (by omega)
  refine ⟨g, 0, e1, fun j hj => ?_⟩
  rw [Nat.zero_add]
  exact hc j _ (by simp [intCells, hj])

theorem readConf_none {s : ByteArray} {w w' : World} {v : Value} (h : confOk (intsOf s.data.toList) = false) (ho : w'.ownsRow w.heap.size 3 1 v 0 []) (hb : Below w.heap.size w w') : readConfAns s w (.returned (.tuple #[v, .bool false])) w' := by
  refine ⟨v, by rw [readConf_no h], ?_, hb⟩
  rw [readConf_no h]
  exact ho

theorem readConf_some {s : ByteArray} {w w' : World} {v : Value} (h : confOk (intsOf s.data.toList) = true) (ho : w'.ownsRow w.heap.size 3 1 v s.size (intCells (intsOf s.data.toList))) (hb : Below w.heap.size w w') : readConfAns s w (.returned (.tuple #[v, .bool true])) w' := by
  refine ⟨v, by rw [readConf_yes h], ?_, hb⟩
  rw [readConf_yes h]
  have : (intsOf s.data.toList).length = s.size := by rw [intsOf_length]; simp
  rw [this]
  exact ho

theorem kept_conf {w w2 : World} {base : Nat} {e : TypeId} {v : Value} {n : Nat} {xs : List Value} (h : w.ownsRow base e 1 v n xs) (hb : Below w.heap.size w w2) : w2.ownsRow base e 1 v n xs := by
  refine h.kept (grown_of_below hb none) ?_
  cases v.ownBlock with
  | none => exact Or.inl rfl
  | some g => exact Or.inr (by simp)
end Go.Proofs.Ytjkgjnpifdafaaa
