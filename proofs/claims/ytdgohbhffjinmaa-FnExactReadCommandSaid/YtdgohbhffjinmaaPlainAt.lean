/-
  Parts of a text, read one behind the other; nothing of the program stands here.
-/
import Derived.Test.YtdgohbhffjinmaaPlainReadEntry
import Derived.Test.YtdgohbhffjinmaaPlainShort
namespace Go.Proofs.Ytdgohbhffjinmaa
open Go.RowKit

/-- a number at a place, and the place behind it -/
def numAt (s : ByteArray) (lim k : Nat) : Option (Nat × Nat) := match rv (s.data.toList.drop k) with
  | some (n, c) => if n ≤ lim then some (n, k + c) else none
  | none => none
/-- a short text at a place, and the place behind it -/
def txtAt (s : ByteArray) (k : Nat) : Option (ByteArray × Nat) := match rs s (k : Int) with
  | some (x, y) => some (s.extract x y, y)
  | none => none
theorem numAt_fits {s : ByteArray} {lim k n k' : Nat} (hk : k ≤ s.size) (h : numAt s lim k = some (n, k')) : n ≤ lim ∧ n ≤ 1000000000 ∧ k < k' ∧ k' ≤ s.size ∧ s.data.toList.drop k = vb n ++ s.data.toList.drop k' := by
  unfold numAt at h
  cases hv : rv (s.data.toList.drop k) with
  | none => rw [hv] at h; cases h
  | some p =>
    obtain ⟨a, c⟩ := p
    rw [hv] at h
    dsimp only at h
    have hf := rv_fits hk hv
    obtain ⟨_, l2⟩ := rv_text hv
    rw [List.drop_drop] at l2
    by_cases hl : a ≤ lim
    · rw [if_pos hl] at h
      cases h
      exact ⟨hl, hf.1, by omega, hf.2.2, l2⟩
    · rw [if_neg hl] at h
      cases h
theorem txtAt_fits {s : ByteArray} {k k' : Nat} {t : ByteArray} (hk : k ≤ s.size) (h : txtAt s k = some (t, k')) : t.size ≤ 20000 ∧ k < k' ∧ k' ≤ s.size ∧ s.data.toList.drop k = vb t.size ++ (t.data.toList ++ s.data.toList.drop k') := by
  unfold txtAt at h
  cases hv : rv (s.data.toList.drop k) with
  | none => rw [rs_none hk hv] at h; cases h
  | some p =>
    obtain ⟨n, c⟩ := p
    have hf := rv_fits hk hv
    by_cases hb : n ≤ 20000 ∧ k + c + n ≤ s.size
    · rw [rs_yes hk hv hb] at h
      dsimp only at h
      cases h
      have hz : (s.extract (k + c) (k + c + n)).size = n := by rw [ByteArray.size_extract]; omega
      obtain ⟨_, l2⟩ := rv_text hv
      rw [List.drop_drop] at l2
      refine ⟨by rw [hz]; exact hb.1, by omega, hb.2, ?_⟩
      rw [hz]
      conv => lhs; rw [l2]
      congr 1
      rw [extract_eq, show k + c + n - (k + c) = n by omega]
      conv => lhs; rw [← List.take_append_drop n (s.data.toList.drop (k + c))]
      rw [List.drop_drop]
    · rw [rs_big hk hv hb] at h
      cases h
end Go.Proofs.Ytdgohbhffjinmaa
