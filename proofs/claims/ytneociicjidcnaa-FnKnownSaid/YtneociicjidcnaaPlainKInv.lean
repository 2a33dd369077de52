/-
  Plain facts on what is known of cards: each address once, four at most; nothing of the program stands here.
-/
import Derived.Test.YtneociicjidcnaaPlainKnown
namespace Go.Proofs.Ytneociicjidcnaa
open Go.RowKit

/-- four at most, each address once, in 1 .. 7 -/
structure KInv (l : List KnownD) : Prop where
  few : l.length ≤ 4
  once : (l.map KnownD.addr).Nodup
  low : ∀ k ∈ l, 1 ≤ k.addr ∧ k.addr ≤ 7
theorem kinv_nil : KInv [] := ⟨by simp, List.nodup_nil, by simp⟩
theorem KInv.apart {l : List KnownD} (h : KInv l) {j k : Nat} (hk : k < l.length) (hj : j < k) : (l[j]'(by omega)).addr ≠ l[k].addr := by
  have h1 := List.nodup_iff_pairwise_ne.1 h.once
  rw [List.pairwise_iff_getElem] at h1
  have := h1 j k (by simp; omega) (by simpa using hk) hj
  simpa using this
theorem mem_others {l : List KnownD} {a : Int} {k : KnownD} (h : k ∈ others l a) : k ∈ l ∧ k.addr ≠ a := by
  simp only [others, List.mem_filter] at h
  exact ⟨h.1, by simpa using h.2⟩
theorem learned_drop (l : List KnownD) (a c : Int) : lastFour (learned l a c) = (others l a).drop ((others l a).length + 1 - 4) ++ [⟨a, c⟩] := by
  rw [lastFour, learned_length, learned, List.drop_append_of_le_length (by omega)]
theorem cardOf_last (l : List KnownD) (a c : Int) (h : ∀ k ∈ l, k.addr ≠ a) : cardOf (l ++ [⟨a, c⟩]) a = c := by
  induction l with
  | nil => simp [cardOf]
  | cons x l ih =>
    rw [List.cons_append, cardOf, if_neg (h x (by simp))]
    exact ih (fun k hk => h k (by simp [hk]))
theorem learn_inv {l : List KnownD} {a c : Int} (hi : KInv l) (ha : 1 ≤ a ∧ a ≤ 7) (hc : 1 ≤ c ∧ c ≤ 50) : KInv (learn l a c) ∧ cardOf (learn l a c) a = c ∧ 0 < (learn l a c).length := by
  rw [learn_yes (within_yes (by omega) (by omega)) (within_yes (by omega) (by omega)), learned_drop]
  obtain ⟨F, hF⟩ : ∃ F, (others l a).drop ((others l a).length + 1 - 4) = F := ⟨_, rfl⟩
  have hFl : F.length ≤ 3 := by rw [← hF, List.length_drop]; omega
  have hFm : ∀ k ∈ F, k ∈ others l a := fun k hk => List.mem_of_mem_drop (by rw [hF]; exact hk)
  have hsub : F.Sublist l := by rw [← hF]; exact (List.drop_sublist _ _).trans List.filter_sublist
  rw [hF]
  refine ⟨⟨by simp; omega, ?_, ?_⟩, cardOf_last F a c (fun k hk => (mem_others (hFm k hk)).2), by simp⟩
  · rw [List.map_append, List.nodup_append]
    refine ⟨(hsub.map _).nodup hi.once, by simp, ?_⟩
    intro x hx y hy
    simp at hy
    obtain ⟨k, hk, rfl⟩ := List.mem_map.1 hx
    rw [hy]
    exact (mem_others (hFm k hk)).2
  · intro k hk
    rcases List.mem_append.1 hk with h | h
    · exact hi.low k (mem_others (hFm k h)).1
    · simp at h
      subst h
      exact ha
theorem KInv.none99 {l : List KnownD} (h : KInv l) : cardOf l 99 = 0 := cardOf_none l 99 (fun j hj => by have := h.low l[j] (List.getElem_mem hj); omega)
theorem learn_zero (l : List KnownD) (c : Int) : learn l 0 c = l := learn_no (Or.inl (within_no (Or.inl (by omega))))
end Go.Proofs.Ytneociicjidcnaa
