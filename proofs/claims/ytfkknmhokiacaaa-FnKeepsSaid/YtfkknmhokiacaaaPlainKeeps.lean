/-
  Plain facts on what is left of a right disk: it is right, wholly kept, and lost again nothing more is lost; nothing of the program stands here.
-/
import Derived.Test.YtfkknmhokiacaaaPlainLose
import Derived.Test.YtfkknmhokiacaaaPlainKept
namespace Go.Proofs.Ytfkknmhokiacaaa
open Go.RowKit

theorem lose_at {l : List FileD} {zs : List Int} : ∀ (n : Nat) (hn : n ≤ l.length) (k : Nat) (hk : k < n), (loseTo l zs n)[k]? = some (lostOf (l[k]'(by omega)) (zs.getD k 0))
  | 0, _, k, hk => by omega
  | n + 1, hn, k, hk => by
    rw [loseTo_step (show n < l.length by omega)]
    have hln : (loseTo l zs n).length = n := loseTo_length (by omega)
    by_cases h : k < n
    · rw [List.getElem?_append_left (by omega)]
      exact lose_at n (by omega) k h
    · obtain rfl : k = n := by omega
      rw [List.getElem?_append_right (by omega), hln]
      simp

theorem lose_get {l : List FileD} {zs : List Int} {k : Nat} (hk : k < l.length) (hk2 : k < (loseTo l zs l.length).length) : (loseTo l zs l.length)[k] = lostOf l[k] (zs.getD k 0) := by
  have := lose_at (zs := zs) l.length (Nat.le_refl _) k hk
  rw [List.getElem?_eq_getElem hk2] at this
  exact Option.some.inj this

theorem left_bd {f : FileD} {n : Int} (h0 : 0 ≤ f.kept) (h1 : f.kept ≤ f.text.size) : f.kept ≤ leftOf f n ∧ 0 ≤ leftOf f n ∧ leftOf f n ≤ f.text.size := by
  unfold leftOf
  split <;> split <;> omega

theorem lost_size {f : FileD} {n : Int} (h0 : 0 ≤ f.kept) (h1 : f.kept ≤ f.text.size) : ((lostOf f n).text.size : Int) = leftOf f n := by
  have := left_bd (n := n) h0 h1
  simp only [lostOf, ByteArray.size_extract]
  omega

theorem extract_full (s : ByteArray) (k : Nat) (h : s.size ≤ k) : s.extract 0 k = s := by
  apply ByteArray.ext
  apply Array.toList_inj.1
  rw [extract_eq]
  simp
  exact List.take_of_length_le (by simpa using h)

theorem extract_extract (s : ByteArray) (a b : Nat) (h : a ≤ b) : (s.extract 0 b).extract 0 a = s.extract 0 a := by
  apply ByteArray.ext
  apply Array.toList_inj.1
  rw [extract_eq, extract_eq, extract_eq]
  simp [List.take_take, Nat.min_eq_left h]

theorem lost_again {f : FileD} {n : Int} (h0 : 0 ≤ f.kept) (h1 : f.kept ≤ f.text.size) : lostOf (lostOf f n) 0 = lostOf f n := by
  have hb := left_bd (n := n) h0 h1
  have hs := lost_size (n := n) h0 h1
  have hk : leftOf (lostOf f n) 0 = leftOf f n := by
    have e : (lostOf f n).kept = leftOf f n := rfl
    have hs2 := hs
    have hb2 := hb
    clear hs hb
    generalize lostOf f n = g at e hs2 ⊢
    generalize leftOf f n = V at e hs2 hb2 ⊢
    unfold leftOf
    rw [hs2, e]
    split <;> split <;> omega
  have ht : (lostOf f n).text.extract 0 (leftOf f n).toNat = (lostOf f n).text := extract_full _ _ (by omega)
  show FileD.mk (lostOf f n).name ((lostOf f n).text.extract 0 (leftOf (lostOf f n) 0).toNat) (leftOf (lostOf f n) 0) = _
  rw [hk, ht]
  rfl

theorem disk_bd {l : List FileD} (h : diskOk l = true) {k : Nat} (hk : k < l.length) : fileOk l[k] = true ∧ behind l k l[k] = true := by
  rw [diskOk, Bool.and_eq_true] at h
  have h2 := rightTo_down h.2 (show k + 1 ≤ l.length by omega)
  rw [rightTo_step hk] at h2
  simp only [Bool.and_eq_true] at h2
  exact h2.2

theorem right_of {l : List FileD} (h : ∀ k (hk : k < l.length), fileOk l[k] = true ∧ behind l k l[k] = true) : ∀ n, n ≤ l.length → rightTo l n = true
  | 0, _ => rfl
  | n + 1, hn => by
    rw [rightTo_step (show n < l.length by omega), right_of h n (by omega), (h n (by omega)).1, (h n (by omega)).2]
    rfl

theorem lose_right {l : List FileD} {zs : List Int} (h : diskOk l = true) : diskOk (loseTo l zs l.length) = true := by
  have hln : (loseTo l zs l.length).length = l.length := loseTo_length (Nat.le_refl _)
  have h30 : l.length ≤ 30 := by
    rw [diskOk, Bool.and_eq_true] at h
    simpa using h.1
  refine diskOk_of (by omega) (right_of ?_ _ (Nat.le_refl _))
  intro k hk
  have hk1 : k < l.length := by omega
  rw [lose_get hk1 hk]
  have hb := disk_bd h hk1
  obtain ⟨k0, k1, k2⟩ := diskOk_kept h hk1
  have hl := left_bd (n := zs.getD k 0) k0 k1
  have hs := lost_size (n := zs.getD k 0) k0 k1
  refine ⟨?_, ?_⟩
  · have hf := hb.1
    simp only [fileOk, Bool.and_eq_true, within, decide_eq_true_eq] at hf ⊢
    refine ⟨⟨hf.1.1, ?_⟩, ?_⟩
    · show (lostOf l[k] (zs.getD k 0)).text.size ≤ 20000
      omega
    · show 0 ≤ leftOf l[k] (zs.getD k 0) ∧ leftOf l[k] (zs.getD k 0) ≤ ((lostOf l[k] (zs.getD k 0)).text.size : Int)
      omega
  · cases k with
    | zero => rfl
    | succ j =>
      have e1 := behind_step (l := l) (j := j) hk1
      rw [hb.2] at e1
      have e2 := behind_step (l := loseTo l zs l.length) (j := j) hk
      rw [lose_get hk1 hk, lose_get (show j < l.length by omega) (by omega)] at e2
      rw [e2]
      exact e1.symm

theorem lose_twice {l : List FileD} {zs : List Int} (h : diskOk l = true) : loseTo (loseTo l zs l.length) [] (loseTo l zs l.length).length = loseTo l zs l.length := by
  have hln : (loseTo l zs l.length).length = l.length := loseTo_length (Nat.le_refl _)
  apply List.ext_getElem
  · exact loseTo_length (Nat.le_refl _)
  · intro k h1 h2
    rw [lose_get h2 h1, lose_get (by omega) h2]
    obtain ⟨k0, k1, _⟩ := diskOk_kept h (show k < l.length by omega)
    have : ([] : List Int).getD k 0 = 0 := by simp
    rw [this]
    exact lost_again k0 k1

theorem kept_of {l : List FileD} (h : ∀ k (hk : k < l.length), l[k].kept = l[k].text.size) : ∀ n, n ≤ l.length → keptTo l n = true
  | 0, _ => rfl
  | n + 1, hn => by
    rw [keptTo_step (show n < l.length by omega), kept_of h n (by omega), h n (by omega)]
    simp

theorem lose_kept {l : List FileD} {zs : List Int} (h : diskOk l = true) : allKept (loseTo l zs l.length) = true := by
  rw [allKept, lose_right h, Bool.true_and]
  refine kept_of ?_ _ (Nat.le_refl _)
  intro k hk
  have hk1 : k < l.length := by rw [loseTo_length (Nat.le_refl _)] at hk; exact hk
  rw [lose_get hk1 hk]
  obtain ⟨k0, k1, _⟩ := diskOk_kept h hk1
  exact (lost_size k0 k1).symm
end Go.Proofs.Ytfkknmhokiacaaa
