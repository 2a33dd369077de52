/-
  Rows and blocks that stay while a region's operations come in whatever order; an answer of LogPut as data.
-/
import Derived.Test.YtglibbpigmpanaaJoint1
import Derived.Test.YtglibbpigmpanaaJoint34
import Derived.Test.YtglibbpigmpanaaJoint35
namespace Go.Proofs.Ytglibbpigmpanaa
open Go.RowKit

theorem EntsAt.take {w : World} {ao : Option Addr} {l : List EntD} (h : EntsAt w ao l) (k : Nat) : EntsAt w ao (l.take k) := by
  intro hne
  obtain ⟨b, off, e, hc⟩ := h (by intro e; rw [e] at hne; simp at hne)
  refine ⟨b, off, e, fun j hj => ?_⟩
  have hj2 : j < l.length := by simp at hj; omega
  have := hc j hj2
  simp only [List.getElem_take]
  exact this
theorem entCells_snoc (l : List EntD) (e : EntD) : entCells (l ++ [e]) = entCells l ++ entEnc e := by simp [entCells]
theorem entCells_ne {l : List EntD} (h : 0 < l.length) (r : List Value) : entCells l ++ r ≠ [] := by
  intro e
  have := congrArg List.length e
  rw [List.length_append, entCells_length] at this
  simp at this
  omega

theorem putAns_no {s t i : Int} {l : List EntD} {e : EntD} (h : ¬ (logOk s t l = true ∧ within i (s + 1) (s + l.length + 1) = true ∧ logOk s t (l.take (i - s - 1).toNat ++ [e]) = true)) : putAns s t l i e = ((0, 0, []), false) := by
  rw [putAns, if_neg]
  intro q
  exact h ⟨q.1, within_iff.2 q.2.1, q.2.2⟩
theorem putAns_yes {s t i : Int} {l : List EntD} {e : EntD} (h : logOk s t l = true) (h1 : within i (s + 1) (s + l.length + 1) = true) (h2 : logOk s t (l.take (i - s - 1).toNat ++ [e]) = true) : putAns s t l i e = ((s, t, l.take (i - s - 1).toNat ++ [e]), true) := by
  rw [putAns, if_pos ⟨h, within_iff.1 h1, h2⟩]

/-- an answer of LogPut, in memory of its own -/
def PutDid (w : World) (S T : Int) (A : List EntD) (ok : Bool) (e : Ending) (w' : World) : Prop :=
  ∃ vo vc, e = .returned (.tuple #[.agg #[.int .i64 S, .int .i64 T, .slice vo A.length vc], .bool ok]) ∧ A.length ≤ vc ∧ OwnAt w' 69 (entCells A) A.length vo w.heap.size w'.heap.size ∧ Below w.heap.size w w'
theorem putDid_no {w w' : World} {e : Ending} (he : e = .returned (.tuple #[.agg #[.int .i64 0, .int .i64 0, .slice none 0 0], .bool false])) (hb : Below w.heap.size w w') : PutDid w 0 0 [] false e w' := ⟨none, 0, he, Nat.le_refl _, Or.inl rfl, hb⟩

/-- nothing but entries between two sizes has turned -/
def KeptBut2 (lo hi : Nat) (w w' : World) : Prop := ∀ j t cs, ¬ (lo ≤ j ∧ j < hi ∧ t = 69) → BlockIs w j t cs → BlockIs w' j t cs
theorem OwnAt.kept2 {w w' : World} {t : TypeId} {cs : List Value} {n : Nat} {va : Option Addr} {lo hi lo2 hi2 : Nat} (h : OwnAt w t cs n va lo hi) (hk : KeptBut2 lo2 hi2 w w') (ho : hi ≤ lo2 ∨ hi2 ≤ lo) : OwnAt w' t cs n va lo hi :=
  h.imp id fun ⟨g, r, a, b, c, d⟩ => ⟨g, r, a, b, c, hk _ _ _ (fun h => by omega) d⟩
theorem BlockIs.kept2 {w w' : World} {g lo hi : Nat} {t : TypeId} {cs : List Value} (h : BlockIs w g t cs) (hk : KeptBut2 lo hi w w') (ho : t ≠ 69) : BlockIs w' g t cs := hk _ _ _ (fun h => ho h.2.2) h
theorem markLog_o2 (s t : Int) (m : Nat) (va : Option Addr) (vc : Nat) (l : List EntD) (lo hi : Nat) (hm : m ≤ 10000000) (hl : l.length ≤ 1048576) (w : World) (hw : lo ≤ w.heap.size) (h : OwnAt w 69 (entCells l) l.length va lo hi) :
    Calls Try.prog 32 #[.agg #[.int .i64 s, .int .i64 t, .slice va l.length vc], .int .i64 m] w fun e w' => e = .returned (.int .i64 ((m + 3 * l.length : Nat) : Int)) ∧ EntsAt w' va (marksE m l.length) ∧ KeptBut2 lo hi w w' ∧ Below lo w w' := by
  rcases h with h0 | ⟨g, r, rfl, h1, h2, h3⟩
  · refine (markLog_o s t m va vc l w.heap.size w.heap.size hm hl w (Nat.le_refl _) (Or.inl h0)).mono ?_
    rintro e w' ⟨rfl, a1, a2, a3⟩
    exact ⟨rfl, a1, fun j t cs _ hb => hb.on a3 hb.lt, a3.mono hw⟩
  · refine (markLog_o s t m _ vc l g (g + 1) hm hl w (Nat.le_of_lt h3.lt) (Or.inr ⟨g, r, rfl, Nat.le_refl _, Nat.lt_succ_self _, h3⟩)).mono ?_
    rintro e w' ⟨rfl, a1, a2, a3⟩
    refine ⟨rfl, a1, fun j t cs hj hb => a2 j t cs (fun q => hj ?_) hb, a3.mono h1⟩
    obtain rfl : j = g := by omega
    exact ⟨h1, h2, (block_one hb h3).1⟩
end Go.Proofs.Ytglibbpigmpanaa
