/-
  Plain facts on sealed texts: what is sealed is unsealed; with one byte turned it is not.
-/
import Derived.Test.YtneociicjidcnaaDoorPlainCrc
namespace Go.Proofs.YtneociicjidcnaaDoor
open Go.RowKit

/-- the sealed text -/
def sealOf (s : ByteArray) : ByteArray := s ++ ⟨(four (sumOf s.data.toList)).toArray⟩

theorem sealOf_list (s : ByteArray) : (sealOf s).data.toList = s.data.toList ++ four (sumOf s.data.toList) := by
  rw [sealOf, ByteArray.data_append, Array.toList_append]
theorem sealOf_size (s : ByteArray) : (sealOf s).size = s.size + 4 := by
  rw [sealOf, ByteArray.size_append]
  rfl
theorem sealOf_uns {s : ByteArray} (h : s.size ≤ 20000) : Uns (sealOf s) := by
  refine ⟨by rw [sealOf_size]; omega, by rw [sealOf_size]; omega, ?_⟩
  have e : (sealOf s).size - 4 = s.data.toList.length := by rw [sealOf_size]; simp
  rw [e, sealOf_list, List.take_left, List.drop_left]
theorem sealOf_head (s : ByteArray) : (sealOf s).extract 0 ((sealOf s).size - 4) = s := by
  apply ByteArray.ext
  apply Array.toList_inj.1
  have e : (sealOf s).size - 4 = s.data.toList.length := by rw [sealOf_size]; simp
  rw [head_list, e, sealOf_list, List.take_left]

/-- a sealed text with one byte turned is none -/
theorem turned_not {s t : ByteArray} {k : Nat} {b : UInt8} (hk : k < (sealOf s).size) (hb : b ≠ (sealOf s).data.toList[k]'(by simpa using hk)) (ht : t.data.toList = (sealOf s).data.toList.set k b) : ¬ Uns t := by
  intro h
  have hkl : k < (sealOf s).data.toList.length := by simpa using hk
  obtain ⟨L, hL⟩ : ∃ L, (sealOf s).data.toList = L := ⟨_, rfl⟩
  have h1 := sealOf_list s
  simp only [hL] at hb hkl ht h1
  obtain ⟨_, _, h3⟩ := h
  have h4 := List.take_append_drop (t.size - 4) t.data.toList
  rw [h3] at h4
  refine hb ?_
  refine (seal_turned s.data.toList (t.data.toList.take (t.size - 4)) (L.take k) (L.drop (k + 1)) L[k] b ?_ ?_).symm
  · rw [← h1]
    rw [List.getElem_cons_drop hkl, List.take_append_drop]
  · rw [h4, ht, List.set_eq_take_append_cons_drop, if_pos hkl]

/-- with one byte turned it is no sealed text -/
def TurnsNot (Q : ByteArray) : Prop := ∀ (t : ByteArray) (k : Nat) (b : UInt8) (hk : k < Q.size), b ≠ Q[k] → t.data.toList = Q.data.toList.set k b → ¬ Uns t
theorem sealOf_turns (s : ByteArray) : TurnsNot (sealOf s) := fun _ _ _ hk hb ht => turned_not hk (fun h => hb (h.trans rfl)) ht
end Go.Proofs.YtneociicjidcnaaDoor
