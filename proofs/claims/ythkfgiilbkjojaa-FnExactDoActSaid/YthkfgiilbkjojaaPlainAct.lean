/-
  Acts on disks as plain data: when one is true, and what it leaves.
-/
import Derived.Test.YthkfgiilbkjojaaPutS
import Derived.Test.YthkfgiilbkjojaaWithoutS
import Derived.Test.YthkfgiilbkjojaaAtS
import Derived.Test.YthkfgiilbkjojaaSzAct
import Derived.Test.YthkfgiilbkjojaaPlainLose
import Derived.Sort.Walk0
namespace Go.Proofs.Ythkfgiilbkjojaa
open Go.RowKit

theorem textLt_eq (s t : ByteArray) : textLt s t = decide (s.toList < t.toList) := bytesLess_eq _ _
theorem textLt_iff {s t : ByteArray} : textLt s t = true ↔ s.toList < t.toList := by rw [textLt_eq]; simp
theorem lt_tri (a b : List UInt8) : a < b ∨ a = b ∨ b < a := by
  rcases Decidable.em (a < b) with h | h
  · exact Or.inl h
  · rcases Decidable.em (b < a) with h2 | h2
    · exact Or.inr (Or.inr h2)
    · exact Or.inr (Or.inl (List.le_antisymm (List.not_lt.1 h2) (List.not_lt.1 h)))

/-- names ascend -/
def Asc (l : List FileD) : Prop := l.Pairwise fun f g => f.name.toList < g.name.toList
theorem rightTo_iff {l : List FileD} : ∀ k, k ≤ l.length → (rightTo l k = true ↔ ∀ j (hj : j < l.length), j < k → fileOk l[j] = true ∧ behind l j l[j] = true)
  | 0, _ => by simp [rightTo]
  | k + 1, hk => by
    rw [rightTo_step (show k < l.length by omega), Bool.and_eq_true, Bool.and_eq_true, rightTo_iff k (by omega)]
    constructor
    · rintro ⟨h, h2⟩ j hj hjk
      rcases Nat.lt_or_ge j k with q | q
      · exact h j hj q
      · obtain rfl : j = k := by omega
        exact h2
    · exact fun h => ⟨fun j hj hjk => h j hj (by omega), h k (by omega) (by omega)⟩
theorem diskOk_iff {l : List FileD} : diskOk l = true ↔ l.length ≤ 30 ∧ (∀ f ∈ l, fileOk f = true) ∧ Asc l := by
  rw [diskOk, Bool.and_eq_true, rightTo_iff l.length (Nat.le_refl _), decide_eq_true_eq]
  refine and_congr_right fun _ => ⟨fun h => ⟨fun f hf => ?_, ?_⟩, fun ⟨h1, h2⟩ j hj _ => ⟨h1 _ (List.getElem_mem hj), ?_⟩⟩
  · obtain ⟨j, hj, rfl⟩ := List.getElem_of_mem hf
    exact (h j hj hj).1
  · rw [Asc, List.pairwise_iff_getElem]
    intro i j hi hj hij
    induction j with
    | zero => omega
    | succ j ih =>
      have hb := (h (j + 1) hj hj).2
      rw [behind_step hj, textLt_iff] at hb
      rcases Nat.lt_or_ge i j with q | q
      · exact List.lt_trans (ih (by omega) q) hb
      · obtain rfl : i = j := by omega
        exact hb
  · cases j with
    | zero => rfl
    | succ j =>
      rw [behind_step hj, textLt_iff]
      exact (List.pairwise_iff_getElem.1 h2) j (j + 1) (by omega) hj (by omega)

theorem name_ne {f g : FileD} : f.name ≠ g.name ↔ (f.name.toList < g.name.toList ∨ g.name.toList < f.name.toList) := by
  constructor
  · intro h
    rcases lt_tri f.name.toList g.name.toList with q | q | q
    · exact Or.inl q
    · exact absurd (text_eq q) h
    · exact Or.inr q
  · rintro (h | h) e
    · rw [e] at h; exact List.lt_irrefl _ h
    · rw [e] at h; exact List.lt_irrefl _ h
theorem mem_put {l : List FileD} {f g : FileD} : g ∈ filesPut l f ↔ g = f ∨ (g ∈ l ∧ g.name ≠ f.name) := by
  rw [name_ne]
  simp only [filesPut, lessAnd, filesLess, List.mem_append, List.mem_filter, isLess, isMore, textLt_iff, List.mem_singleton]
  constructor
  · rintro ((h | h) | h)
    · exact Or.inr ⟨h.1, Or.inl h.2⟩
    · exact Or.inl h
    · exact Or.inr ⟨h.1, Or.inr h.2⟩
  · rintro (h | ⟨h, (q | q)⟩)
    · exact Or.inl (Or.inr h)
    · exact Or.inl (Or.inl ⟨h, q⟩)
    · exact Or.inr ⟨h, q⟩
theorem mem_not {l : List FileD} {x : ByteArray} {g : FileD} : g ∈ filesNot l x ↔ g ∈ l ∧ g.name ≠ x := by
  simp only [filesNot, List.mem_filter, Bool.not_eq_true', beq_eq_false_iff_ne]
  exact and_congr_right fun _ => ⟨fun h e => h (by rw [e]), fun h e => h (text_eq e)⟩
theorem asc_put {l : List FileD} (h : Asc l) (f : FileD) : Asc (filesPut l f) := by
  unfold Asc filesPut lessAnd filesLess
  rw [List.pairwise_append, List.pairwise_append]
  refine ⟨⟨h.filter _, by simp, ?_⟩, h.filter _, ?_⟩
  · intro a ha b hb
    rw [List.mem_singleton] at hb
    rw [hb]
    exact textLt_iff.1 (List.mem_filter.1 ha).2
  · intro a ha b hb
    have hb2 := textLt_iff.1 (List.mem_filter.1 hb).2
    rw [List.mem_append, List.mem_singleton] at ha
    rcases ha with ha | rfl
    · exact List.lt_trans (textLt_iff.1 (List.mem_filter.1 ha).2) hb2
    · exact hb2
theorem asc_not {l : List FileD} (h : Asc l) (x : ByteArray) : Asc (filesNot l x) := h.filter _
theorem put_length (l : List FileD) (f : FileD) : (filesPut l f).length = (filesNot l f.name).length + 1 := by
  simp only [filesPut, lessAnd, filesLess, List.length_append, List.length_singleton, filesNot]
  suffices hs : (l.filter (isLess f)).length + (l.filter (isMore f)).length = (l.filter fun g => !(g.name.toList == f.name.toList)).length by omega
  induction l with
  | nil => rfl
  | cons g l ih =>
    rcases lt_tri g.name.toList f.name.toList with q | q | q
    · have a1 : isLess f g = true := textLt_iff.2 q
      have a2 : ¬ isMore f g = true := fun h => List.lt_irrefl _ (List.lt_trans q (textLt_iff.1 h))
      have a3 : (!(g.name.toList == f.name.toList)) = true := by
        rw [Bool.not_eq_true', beq_eq_false_iff_ne]; intro e; rw [e] at q; exact List.lt_irrefl _ q
      rw [List.filter_cons_of_pos a1, List.filter_cons_of_neg a2, List.filter_cons_of_pos (p := fun g : FileD => !(g.name.toList == f.name.toList)) a3, List.length_cons, List.length_cons]
      omega
    · have a1 : ¬ isLess f g = true := fun h => by have := textLt_iff.1 h; rw [q] at this; exact List.lt_irrefl _ this
      have a2 : ¬ isMore f g = true := fun h => by have := textLt_iff.1 h; rw [q] at this; exact List.lt_irrefl _ this
      have a3 : ¬ (!(g.name.toList == f.name.toList)) = true := by rw [q]; simp
      rw [List.filter_cons_of_neg a1, List.filter_cons_of_neg a2, List.filter_cons_of_neg (p := fun g : FileD => !(g.name.toList == f.name.toList)) a3]
      exact ih
    · have a1 : isMore f g = true := textLt_iff.2 q
      have a2 : ¬ isLess f g = true := fun h => List.lt_irrefl _ (List.lt_trans q (textLt_iff.1 h))
      have a3 : (!(g.name.toList == f.name.toList)) = true := by
        rw [Bool.not_eq_true', beq_eq_false_iff_ne]; intro e; rw [e] at q; exact List.lt_irrefl _ q
      rw [List.filter_cons_of_pos a1, List.filter_cons_of_neg a2, List.filter_cons_of_pos (p := fun g : FileD => !(g.name.toList == f.name.toList)) a3, List.length_cons, List.length_cons]
      omega
theorem not_all {l : List FileD} {x : ByteArray} (h : ∀ f ∈ l, f.name ≠ x) : filesNot l x = l := by
  rw [filesNot, List.filter_eq_self]
  intro f hf
  rw [Bool.not_eq_true', beq_eq_false_iff_ne]
  exact fun e => h f hf (text_eq e)
theorem not_length {l : List FileD} {x : ByteArray} (h : Asc l) (hx : ∃ f ∈ l, f.name = x) : (filesNot l x).length + 1 = l.length := by
  induction l with
  | nil => obtain ⟨f, hf, _⟩ := hx; cases hf
  | cons g l ih =>
    rw [Asc, List.pairwise_cons] at h
    by_cases e : g.name = x
    · have : filesNot (g :: l) x = l := by
        have h2 : filesNot l x = l := not_all fun f hf ef => by have := h.1 f hf; rw [e, ef] at this; exact List.lt_irrefl _ this
        unfold filesNot at h2 ⊢
        rw [List.filter_cons, e]
        simpa using h2
      rw [this]
      rfl
    · obtain ⟨f, hf, rfl⟩ := hx
      rcases List.mem_cons.1 hf with q | q
      · subst q; exact absurd rfl e
      · have h3 : (g.name.toList == f.name.toList) = false := by rw [beq_eq_false_iff_ne]; exact fun q => e (text_eq q)
        have := ih h.2 ⟨f, q, rfl⟩
        unfold filesNot at this ⊢
        rw [List.filter_cons, h3]
        simp only [Bool.not_false, if_true, List.length_cons]
        omega

/-- the first file of a name -/
def foundOf (l : List FileD) (s : ByteArray) : Option FileD := l.find? fun f => f.name.toList == s.toList
theorem found_none {l : List FileD} {s : ByteArray} (h : NoneAt l s) : foundOf l s = none := by
  rw [foundOf, List.find?_eq_none]
  intro f hf
  obtain ⟨j, hj, rfl⟩ := List.getElem_of_mem hf
  simp only [beq_iff_eq]
  exact fun e => h j hj (text_eq e)
theorem found_some {l : List FileD} {s : ByteArray} {k : Nat} (h : FirstAt l s k) : foundOf l s = some (l[k]'h.1) := by
  obtain ⟨hk, he, hn⟩ := h
  rw [foundOf, List.find?_eq_some_iff_getElem]
  refine ⟨by rw [he]; simp, k, hk, rfl, fun j hj => ?_⟩
  rw [Bool.not_eq_true', beq_eq_false_iff_ne]
  exact fun e => hn j hj (text_eq e)
theorem found_mem {l : List FileD} {s : ByteArray} {f : FileD} (h : foundOf l s = some f) : f ∈ l ∧ f.name = s := by
  rw [foundOf] at h
  refine ⟨List.mem_of_find?_eq_some h, ?_⟩
  have := List.find?_some h
  exact text_eq (by simpa using this)
theorem found_not {l : List FileD} {s : ByteArray} (h : foundOf l s = none) : ∀ f ∈ l, f.name ≠ s := by
  rw [foundOf, List.find?_eq_none] at h
  intro f hf e
  have := h f hf
  rw [e] at this
  simp at this

/-- no letter -/
def blank (s : ByteArray) : Bool := s.toList == []
def actOk (l : List FileD) (a : ActD) : Bool := diskOk l && nameOk a.name && (a.kind == 3 || blank a.to) && (a.kind == 1 || blank a.text)
/-- what an act would leave -/
def doTry (l : List FileD) (a : ActD) : Option (List FileD) :=
  if a.kind = 1 then some (filesPut l ⟨a.name, ((foundOf l a.name).getD ⟨a.name, ByteArray.empty, 0⟩).text ++ a.text, ((foundOf l a.name).getD ⟨a.name, ByteArray.empty, 0⟩).kept⟩)
  else match foundOf l a.name with
    | none => none
    | some f => if a.kind = 2 then some (filesPut l ⟨f.name, f.text, f.text.size⟩)
      else if a.kind = 3 then (if (decide (f.kept < f.text.size) || a.to.toList == a.name.toList || !nameOk a.to) = true then none else some (filesPut (filesNot l a.name) ⟨a.to, f.text, f.kept⟩))
      else if a.kind = 4 then some (filesNot l a.name) else none
def doAct (l : List FileD) (a : ActD) : Option (List FileD) :=
  if actOk l a = true then (match doTry l a with
    | none => none
    | some o => if diskOk o = true then some o else none) else none
theorem doAct_right {l o : List FileD} {a : ActD} (h : doAct l a = some o) : diskOk o = true := by
  unfold doAct at h
  split at h
  · split at h
    · cases h
    · split at h
      · cases h; assumption
      · cases h
  · cases h
def doAns (l : List FileD) (a : ActD) : List FileD × Bool := match doAct l a with
  | none => ([], false)
  | some o => (o, true)
end Go.Proofs.Ythkfgiilbkjojaa
