/-
  Entries in memory: cell by cell, and those behind a place.
-/
import Derived.Test.YtjkgjnpifdafaaaEntData
import Derived.Test.YtjkgjnpifdafaaaRows
namespace Go.Proofs.Ytjkgjnpifdafaaa
open Go.RowKit

theorem EntsAt.drop {w : World} {b off : Nat} {l : List EntD} (h : EntsAt w (some ⟨b, off, none⟩) l) (k : Nat) : EntsAt w (some ⟨b, off + k * 3, none⟩) (l.drop k) := by
  intro hne
  obtain ⟨b', off', e, hc⟩ := h (by intro e; rw [e] at hne; simp at hne)
  simp only [Option.some.injEq, Addr.mk.injEq, and_true] at e
  obtain ⟨rfl, rfl⟩ := e
  refine ⟨b, off + k * 3, rfl, fun j hj => ?_⟩
  have hj2 : k + j < l.length := by simp at hj; omega
  have := hc (k + j) hj2
  simp only [List.getElem_drop]
  rw [show off + k * 3 + j * 3 = off + (k + j) * 3 by omega]
  exact this

theorem entCells_one (l : List EntD) : ∀ u ∈ entCells l, u.oneCell' = true := by
  intro u hu
  simp only [entCells, List.mem_flatMap] at hu
  obtain ⟨e, _, hu⟩ := hu
  simp only [entEnc, List.mem_cons, List.not_mem_nil, or_false] at hu
  rcases hu with rfl | rfl | rfl <;> rfl
/-- a cell of entries that lie in memory -/
theorem ents_cells {w : World} {b off : Nat} {l : List EntD} (h : ∀ j (hj : j < l.length), w.cell? ⟨b, off + j * 3, none⟩ = some (.int .i64 l[j].term) ∧ w.cell? ⟨b, off + j * 3 + 1, none⟩ = some (.int .i64 l[j].kind) ∧ w.cell? ⟨b, off + j * 3 + 2, none⟩ = some (.string l[j].data)) :
    ∀ j u, (entCells l)[j]? = some u → w.cell? ((⟨b, off, none⟩ : Addr).add j) = some u := by
  intro j u hu
  have hlt : j < (entCells l).length := (List.getElem?_eq_some_iff.1 hu).1
  rw [entCells_length] at hlt
  have hj : j / 3 < l.length := by omega
  have hr := row_at entEnc 3 (fun _ => rfl) l [] (j / 3) (j % 3) hj (Nat.mod_lt _ (by omega))
  rw [List.append_nil, show j / 3 * 3 + j % 3 = j by omega] at hr
  have hu' : (entEnc l[j / 3])[j % 3]? = some u := by rw [← hr]; exact hu
  have hadd : (⟨b, off, none⟩ : Addr).add j = ⟨b, off + j, none⟩ := Addr.add_lit _ _ _
  rw [hadd]
  obtain ⟨h0, h1, h2⟩ := h (j / 3) hj
  have h3 : j % 3 = 0 ∨ j % 3 = 1 ∨ j % 3 = 2 := by omega
  rcases h3 with e | e | e
  · rw [e] at hu'
    simp only [entEnc, List.getElem?_cons_zero, Option.some.injEq] at hu'
    rw [← hu', show off + j = off + j / 3 * 3 by omega]
    exact h0
  · rw [e] at hu'
    simp only [entEnc, List.getElem?_cons_succ, List.getElem?_cons_zero, Option.some.injEq] at hu'
    rw [← hu', show off + j = off + j / 3 * 3 + 1 by omega]
    exact h1
  · rw [e] at hu'
    simp only [entEnc, List.getElem?_cons_succ, List.getElem?_cons_zero, Option.some.injEq] at hu'
    rw [← hu', show off + j = off + j / 3 * 3 + 2 by omega]
    exact h2
theorem set_same {cs : List Value} {i : Nat} {v : Value} (h : cs[i]? = some v) : cs.set i v = cs := by
  apply List.ext_getElem?
  intro j
  rw [List.getElem?_set]
  split
  · rename_i e
    subst e
    rw [h]
    have := (List.getElem?_eq_some_iff.1 h).1
    simp [this]
  · rfl
end Go.Proofs.Ytjkgjnpifdafaaa
