/-
  Plain facts on reading an entry's text; nothing of the program stands here.
-/
import Derived.Test.YtdgohbhffjinmaaPlainEntry
import Derived.Test.YtdgohbhffjinmaaPlainRead
namespace Go.Proofs.Ytdgohbhffjinmaa
open Go.RowKit

/-- what was read as a number is just what would be written -/
theorem rvFrom_text {p l : List UInt8} {n c : Nat} (hp : ∀ x ∈ p, 128 ≤ x.toNat) (h : rvFrom p l = some (n, c)) : (vb n).length = c ∧ p ++ l = vb n ++ (p ++ l).drop c := by
  induction l generalizing p with
  | nil => simp [rvFrom] at h
  | cons b r ih =>
    rw [rvFrom] at h
    split at h
    · cases h
    · split at h
      · rename_i hb
        split at h
        · cases h
        · rename_i hv
          simp only [Option.some.injEq, Prod.mk.injEq] at h
          obtain ⟨rfl, rfl⟩ := h
          have e := (vb_val p b hp hb).2 (fun q => hv (Or.inr q))
          rw [e]
          have e2 : p ++ b :: r = (p ++ [b]) ++ r := by simp
          refine ⟨by simp, ?_⟩
          rw [e2, List.drop_left' (by simp)]
      · rename_i hb
        have := ih (p := p ++ [b]) (by
          intro x hx
          rcases List.mem_append.1 hx with hx | hx
          · exact hp x hx
          · simp at hx; subst hx; omega) h
        simpa using this
theorem rv_text {l : List UInt8} {n c : Nat} (h : rv l = some (n, c)) : (vb n).length = c ∧ l = vb n ++ l.drop c := by
  simpa using rvFrom_text (p := []) (by simp) h
theorem rv_bd {l : List UInt8} {n c : Nat} (h : rv l = some (n, c)) : n ≤ 1000000000 ∧ 0 < c ∧ c ≤ l.length := by
  have := rvFrom_some h
  simpa using this

/-- what is read of the bytes of an entry -/
def readE (l : List UInt8) : Option (Nat × EntD) := match l with
  | [] => none
  | h :: l1 => if h = 69 then
      match rv l1 with
      | none => none
      | some (i, m) => match rv (l1.drop m) with
        | none => none
        | some (t, m2) => match (l1.drop m).drop m2 with
          | [] => none
          | k :: r => if (entryOk ⟨t, k.toNat, ⟨r.toArray⟩⟩ && within i 1 1000000) = true then some (i, ⟨t, k.toNat, ⟨r.toArray⟩⟩) else none
    else none

def readEntry (s : ByteArray) : Option (Nat × EntD) := readE s.data.toList
/-- what both readers answer -/
def reAns : Option (Nat × EntD) → Value
  | none => .tuple #[.int .i64 0, .agg #[.int .i64 0, .int .i64 0, .string ByteArray.empty], .bool false]
  | some (i, e) => .tuple #[.int .i64 i, .agg #[.int .i64 e.term, .int .i64 e.kind, .string e.data], .bool true]

theorem list_at (s : ByteArray) (k : Nat) (h : k < s.size) : s.data.toList.drop k = s[k] :: s.data.toList.drop (k + 1) := drop_cons s k h
theorem list_head (s : ByteArray) (h : 0 < s.size) : s.data.toList = s[0] :: s.data.toList.drop 1 := by
  have := drop_cons s 0 h
  simpa using this

theorem readE_empty {s : ByteArray} (h : s.size = 0) : readEntry s = none := by
  have : s.data.toList = [] := List.eq_nil_of_length_eq_zero (by simpa using h)
  rw [readEntry, this, readE]
theorem readE_head {s : ByteArray} (h : 0 < s.size) (h0 : s[0] ≠ 69) : readEntry s = none := by
  rw [readEntry, list_head s h, readE, if_neg h0]
theorem readE_one {s : ByteArray} (h1 : rv (s.data.toList.drop 1) = none) : readEntry s = none := by
  rcases Nat.eq_zero_or_pos s.size with q | q
  · exact readE_empty q
  · by_cases h0 : s[0] = 69
    · rw [readEntry, list_head s q, readE, if_pos h0, h1]
    · exact readE_head q h0
theorem readE_two {s : ByteArray} {i m : Nat} (h1 : rv (s.data.toList.drop 1) = some (i, m)) (h2 : rv (s.data.toList.drop (1 + m)) = none) : readEntry s = none := by
  rcases Nat.eq_zero_or_pos s.size with q | q
  · exact readE_empty q
  · by_cases h0 : s[0] = 69
    · rw [readEntry, list_head s q, readE, if_pos h0, h1]
      simp only
      rw [List.drop_drop, h2]
    · exact readE_head q h0
theorem readE_end {s : ByteArray} {i m t c : Nat} (h1 : rv (s.data.toList.drop 1) = some (i, m)) (h2 : rv (s.data.toList.drop (1 + m)) = some (t, c)) (h3 : s.size ≤ 1 + m + c) : readEntry s = none := by
  rcases Nat.eq_zero_or_pos s.size with q | q
  · exact readE_empty q
  · by_cases h0 : s[0] = 69
    · rw [readEntry, list_head s q, readE, if_pos h0, h1]
      simp only
      rw [List.drop_drop, h2]
      simp only
      rw [List.drop_drop, List.drop_eq_nil_of_le (by simp; omega)]
    · exact readE_head q h0
/-- the data behind a place -/
theorem data_from (s : ByteArray) (k : Nat) : (⟨(s.data.toList.drop k).toArray⟩ : ByteArray) = s.extract k s.size := by
  apply ByteArray.ext
  apply Array.toList_inj.1
  rw [extract_eq, List.take_of_length_le (by simp)]
theorem readE_go {s : ByteArray} {i m t c : Nat} (q : 0 < s.size) (h0 : s[0] = 69) (h1 : rv (s.data.toList.drop 1) = some (i, m)) (h2 : rv (s.data.toList.drop (1 + m)) = some (t, c)) (h3 : 1 + m + c < s.size) :
    readEntry s = if (entryOk ⟨t, s[1 + m + c].toNat, s.extract (1 + m + c + 1) s.size⟩ && within i 1 1000000) = true then some (i, ⟨t, s[1 + m + c].toNat, s.extract (1 + m + c + 1) s.size⟩) else none := by
  rw [readEntry, list_head s q, readE, if_pos h0, h1]
  simp only
  rw [List.drop_drop, h2]
  simp only
  rw [List.drop_drop, list_at s _ h3]
  simp only [data_from]

theorem readE_at {s : ByteArray} {i m t c a : Nat} (q : 0 < s.size) (h0 : s[0] = 69) (h1 : rv (s.data.toList.drop 1) = some (i, m)) (h2 : rv (s.data.toList.drop (1 + m)) = some (t, c)) (ha : 1 + m + c = a) (h3 : a < s.size) :
    readEntry s = if (entryOk ⟨t, s[a].toNat, s.extract (a + 1) s.size⟩ && within i 1 1000000) = true then some (i, ⟨t, s[a].toNat, s.extract (a + 1) s.size⟩) else none := by
  subst ha
  exact readE_go q h0 h1 h2 h3
theorem readE_index {s : ByteArray} {i m : Nat} (h1 : rv (s.data.toList.drop 1) = some (i, m)) (hi : within i 1 1000000 = false) : readEntry s = none := by
  rcases Nat.eq_zero_or_pos s.size with q | q
  · exact readE_empty q
  · by_cases h0 : s[0] = 69
    · cases h2 : rv (s.data.toList.drop (1 + m)) with
      | none => exact readE_two h1 h2
      | some p =>
        obtain ⟨t, c⟩ := p
        by_cases h3 : s.size ≤ 1 + m + c
        · exact readE_end h1 h2 h3
        · rw [readE_go q h0 h1 h2 (by omega), if_neg (by simp [hi])]
    · exact readE_head q h0

/-- the whole text, out of what was read of it -/
theorem text_read {s : ByteArray} {i m t c : Nat} (q : 0 < s.size) (h1 : rv (s.data.toList.drop 1) = some (i, m)) (h2 : rv (s.data.toList.drop (1 + m)) = some (t, c)) (h3 : 1 + m + c < s.size) :
    s.data.toList = s[0] :: (vb i ++ (vb t ++ (s[1 + m + c] :: (s.extract (1 + m + c + 1) s.size).data.toList))) := by
  have e1 := (rv_text h1).2
  have e2 := (rv_text h2).2
  rw [List.drop_drop] at e1 e2
  rw [list_at s _ h3] at e2
  rw [e2] at e1
  have e0 := list_head s q
  rw [e1] at e0
  rw [e0]
  congr 4
  rw [extract_eq, List.take_of_length_le (by simp)]
theorem entText_list (i : Int) (e : EntD) : (entText i e).data.toList = 69 :: (vb i.toNat ++ (vb e.term.toNat ++ (UInt8.ofNat e.kind.toNat :: e.data.data.toList))) := by
  simp [entText, ByteArray.data_append]
/-- what is written of what was read is the text itself, just when it begins as an entry does -/
theorem back_same {s : ByteArray} {i m t c : Nat} (q : 0 < s.size) (h1 : rv (s.data.toList.drop 1) = some (i, m)) (h2 : rv (s.data.toList.drop (1 + m)) = some (t, c)) (h3 : 1 + m + c < s.size) :
    ((entText i ⟨t, s[1 + m + c].toNat, s.extract (1 + m + c + 1) s.size⟩).toList == s.toList) = decide (s[0] = 69) := by
  rw [ByteArray.toList_eq, ByteArray.toList_eq, entText_list, text_read q h1 h2 h3]
  simp only [Int.toNat_natCast, UInt8.ofNat_toNat]
  by_cases h : s[0] = 69
  · simp [h]
  · have h' : ¬ (69 : UInt8) = s[0] := fun x => h x.symm
    simp [h, h']
end Go.Proofs.Ytdgohbhffjinmaa
