/-
  Plain facts on the text of an entry; nothing of the program stands here.
-/
import Derived.Test.YtlehgfpaekibjabPlainEntry
import Derived.Test.YtlehgfpaekibjabPlainConfText
namespace Go.Proofs.Ytlehgfpaekibjab
open Go.RowKit

theorem entryText_yes {i : Int} {d : EntD} (h : entryOk d = true) (hi : within i 1 1000000 = true) : entryText i d = (entText i d, true) := by rw [entryText, if_pos (by rw [h, hi]; rfl)]
theorem entryText_no {i : Int} {d : EntD} (h : entryOk d = false ∨ within i 1 1000000 = false) : entryText i d = (ByteArray.empty, false) := by
  rw [entryText, if_neg]
  rcases h with h | h <;> simp [h]
theorem confBytes_intsOf (l : List UInt8) : confBytes (intsOf l) = l := by
  simp only [confBytes, intsOf, List.map_map]
  conv => rhs; rw [← List.map_id l]
  apply List.map_congr_left
  intro b _
  simp
theorem readConf_true {s : ByteArray} (h : (readConf s).2 = true) : confOk (intsOf s.data.toList) = true ∧ (readConf s).1 = intsOf s.data.toList := by
  cases hA : confOk (intsOf s.data.toList) with
  | true => rw [readConf_yes hA]; exact ⟨rfl, rfl⟩
  | false => rw [readConf_no hA] at h; cases h
theorem size_E (V : ByteArray) : ((⟨#[69]⟩ : ByteArray) ++ V).size = 1 + V.size := by rw [ByteArray.size_append]; rfl
theorem size_one (A : ByteArray) (k : UInt8) : (A ++ ⟨#[k]⟩).size = A.size + 1 := by rw [ByteArray.size_append]; rfl
theorem entText_none (n t : Nat) : entText n ⟨t, 1, ByteArray.empty⟩ = (⟨#[69]⟩ : ByteArray) ++ ⟨(vb n).toArray⟩ ++ ⟨(vb t).toArray⟩ ++ ⟨#[1]⟩ := by
  simp only [entText, ByteArray.append_empty, Int.toNat_natCast]
  rfl
theorem empty_data {s : ByteArray} (h : s.size = 0) : s = ByteArray.empty := by
  apply ByteArray.ext
  exact Array.eq_empty_of_size_eq_zero h
theorem entText_of (n t q : Nat) (s : ByteArray) : entryText n ⟨t, q, s⟩ = (entText n ⟨t, q, s⟩, true) ↔ entryText n ⟨t, q, s⟩ = ((⟨#[69]⟩ : ByteArray) ++ ⟨(vb n).toArray⟩ ++ ⟨(vb t).toArray⟩ ++ ⟨#[UInt8.ofNat q]⟩ ++ s, true) := Iff.rfl
theorem vb_size (n : Nat) (h : n ≤ 1000000) : (⟨(vb n).toArray⟩ : ByteArray).size ≤ 1000001 := by
  have := vb_le n
  show (vb n).toArray.size ≤ 1000001
  simp
  omega
end Go.Proofs.Ytlehgfpaekibjab
