/-
  What a command is as a text; nothing of the program stands here.
-/
import Derived.Test.YtdgohbhffjinmaaDoorPlainCmd
import Derived.Test.YtdgohbhffjinmaaDoorPlain
namespace Go.Proofs.YtdgohbhffjinmaaDoor
open Go.RowKit

def varB (n : Nat) : ByteArray := ⟨(vb n).toArray⟩
def shortB (s : ByteArray) : ByteArray := varB s.size ++ s
def cmdText (d : CommandD) : ByteArray := (⟨#[UInt8.ofNat d.op.toNat]⟩ : ByteArray) ++ varB d.token.toNat ++ varB d.seq.toNat ++ shortB d.key ++ shortB d.val ++ varB d.ver.toNat
def cmdAns (d : CommandD) : Value := if commandOk d = true then .tuple #[.string (cmdText d), .bool true] else .tuple #[.string ByteArray.empty, .bool false]
theorem cmd_bounds {x : CommandD} (h : commandOk x = true) : (1 ≤ x.op ∧ x.op ≤ 5) ∧ (0 ≤ x.token ∧ x.token ≤ 1000000) ∧ (0 ≤ x.seq ∧ x.seq ≤ 1000000) ∧ x.key.size ≤ 8 ∧ x.val.size ≤ 20 ∧ (0 ≤ x.ver ∧ x.ver ≤ 1000000000) := by
  simp only [commandOk, within, Bool.and_eq_true, decide_eq_true_eq] at h
  obtain ⟨h1, h2, h3, h4⟩ := h
  refine ⟨h3, h1, h2, ?_⟩
  by_cases e1 : x.op = 1
  · simp only [e1, if_true, Bool.and_eq_true, decide_eq_true_eq] at h4
    omega
  · simp only [e1, if_false, Bool.and_eq_true, decide_eq_true_eq] at h4
    obtain ⟨a, b, c⟩ := h4
    by_cases e2 : x.op = 2
    · simp only [e2, if_true, decide_eq_true_eq] at c
      omega
    · by_cases e5 : x.op = 5
      · rw [if_neg e2, if_pos e5] at c
        first | omega | (simp only [Bool.and_eq_true, decide_eq_true_eq] at c; omega)
      · rw [if_neg e2, if_neg e5] at c
        first | omega | (simp only [Bool.and_eq_true, decide_eq_true_eq] at c; omega)
theorem varB_list (n : Nat) : (varB n).data.toList = vb n := by simp [varB]
theorem cmdText_list (d : CommandD) : (cmdText d).data.toList = UInt8.ofNat d.op.toNat :: (vb d.token.toNat ++ (vb d.seq.toNat ++ ((vb d.key.size ++ d.key.data.toList) ++ ((vb d.val.size ++ d.val.data.toList) ++ vb d.ver.toNat)))) := by
  simp [cmdText, shortB, ByteArray.data_append, Array.toList_append, varB_list]
end Go.Proofs.YtdgohbhffjinmaaDoor
