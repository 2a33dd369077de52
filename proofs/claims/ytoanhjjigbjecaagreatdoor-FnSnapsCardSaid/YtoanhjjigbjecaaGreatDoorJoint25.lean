/-
  Acts on disks as plain data: when one is true, and what it leaves.
  What each kind of act leaves of a right disk.
  Lists of acts acts data, in memory; what they leave, one by one.
  What acts leave, one by one, as one answer.
  Files put on a disk and taken from it, one behind the other; nothing of the program stands here.
  The acts of a right snapshot on a disk of elder snapshots leave it alone there, and it comes back from its text; nothing of the program stands here.
  What laws over snapshots use: rows as lists, acts that are small.
-/
import Derived.Test.YtoanhjjigbjecaaGreatDoorJoint23
import Derived.Test.YtoanhjjigbjecaaGreatDoorJoint24
import Derived.Test.YtoanhjjigbjecaaGreatDoorJoint1
import Derived.Sort.Walk0
namespace Go.Proofs.YtoanhjjigbjecaaGreatDoor
open Go.RowKit

theorem textLt_eq (s t : ByteArray) : textLt s t = decide (s.toList < t.toList) := bytesLess_eq _ _
theorem textLt_iff {s t : ByteArray} : textLt s t = true ↔ s.toList < t.toList := by rw [textLt_eq]; simp
theorem lt_tri (a b : List UInt8) : a < b ∨ a = b ∨ b < a := by
  rcases Decidable.em (a < b) with h | h
  · exact Or.inl h
  · rcases Decidable.em (b < a) with h2 | h2
    · exact Or.inr (Or.inr h2)
    · exact Or.inr (Or.inl (List.le_antisymm (List.not_lt.1 h2) (List.not_lt.1 h)))

/-- names ascend -/
def Asc (l : List FileD) : Prop := l.Pairwise fun f g => f.name.toList < g.name.toList
theorem rightTo_iff {l : List FileD} : ∀ k, k ≤ l.length → (rightTo l k = true ↔ ∀ j (hj : j < l.length), j < k → fileOk l[j] = true ∧ behind l j l[j] = true)
  | 0, _ => by simp [rightTo]
  | k + 1, hk => by
    rw [rightTo_step (show k < l.length by omega), Bool.and_eq_true, Bool.and_eq_true, rightTo_iff k (by omega)]
    constructor
    · rintro ⟨h, h2⟩ j hj hjk
      rcases Nat.lt_or_ge j k with q | q
      · exact h j hj q
      · obtain rfl : j = k := by omega
        exact h2
    · exact fun h => ⟨fun j hj hjk => h j hj (by omega), h k (by omega) (by omega)⟩
theorem diskOk_iff {l : List FileD} : diskOk l = true ↔ l.length ≤ 30 ∧ (∀ f ∈ l, fileOk f = true) ∧ Asc l := by
  rw [diskOk, Bool.and_eq_true, rightTo_iff l.length (Nat.le_refl _), decide_eq_true_eq]
  refine and_congr_right fun _ => ⟨fun h => ⟨fun f hf => ?_, ?_⟩, fun ⟨h1, h2⟩ j hj _ => ⟨h1 _ (List.getElem_mem hj), ?_⟩⟩
  · obtain ⟨j, hj, rfl⟩ := List.getElem_of_mem hf
    exact (h j hj hj).1
  · rw [Asc, List.pairwise_iff_getElem]
    intro i j hi hj hij
    induction j with
    | zero => omega
    | succ j ih =>
      have hb := (h (j + 1) hj hj).2
      rw [behind_step hj, textLt_iff] at hb
      rcases Nat.lt_or_ge i j with q | q
      · exact List.lt_trans (ih (by omega) q) hb
      · obtain rfl : i = j := by omega
        exact hb
  · cases j with
    | zero => rfl
    | succ j =>
      rw [behind_step hj, textLt_iff]
      exact (List.pairwise_iff_getElem.1 h2) j (j + 1) (by omega) hj (by omega)

theorem name_ne {f g : FileD} : f.name ≠ g.name ↔ (f.name.toList < g.name.toList ∨ g.name.toList < f.name.toList) := by
  constructor
  · intro h
    rcases lt_tri f.name.toList g.name.toList with q | q | q
    · exact Or.inl q
    · exact absurd (text_eq q) h
    · exact Or.inr q
  · rintro (h | h) e
    · rw [e] at h; exact List.lt_irrefl _ h
    · rw [e] at h; exact List.lt_irrefl _ h
theorem mem_put {l : List FileD} {f g : FileD} : g ∈ filesPut l f ↔ g = f ∨ (g ∈ l ∧ g.name ≠ f.name) := by
  rw [name_ne]
  simp only [filesPut, lessAnd, filesLess, List.mem_append, List.mem_filter, isLess, isMore, textLt_iff, List.mem_singleton]
  constructor
  · rintro ((h | h) | h)
    · exact Or.inr ⟨h.1, Or.inl h.2⟩
    · exact Or.inl h
    · exact Or.inr ⟨h.1, Or.inr h.2⟩
  · rintro (h | ⟨h, (q | q)⟩)
    · exact Or.inl (Or.inr h)
    · exact Or.inl (Or.inl ⟨h, q⟩)
    · exact Or.inr ⟨h, q⟩
theorem mem_not {l : List FileD} {x : ByteArray} {g : FileD} : g ∈ filesNot l x ↔ g ∈ l ∧ g.name ≠ x := by
  simp only [filesNot, List.mem_filter, Bool.not_eq_true', beq_eq_false_iff_ne]
  exact and_congr_right fun _ => ⟨fun h e => h (by rw [e]), fun h e => h (text_eq e)⟩
theorem asc_put {l : List FileD} (h : Asc l) (f : FileD) : Asc (filesPut l f) := by
  unfold Asc filesPut lessAnd filesLess
  rw [List.pairwise_append, List.pairwise_append]
  refine ⟨⟨h.filter _, by simp, ?_⟩, h.filter _, ?_⟩
  · intro a ha b hb
    rw [List.mem_singleton] at hb
    rw [hb]
    exact textLt_iff.1 (List.mem_filter.1 ha).2
  · intro a ha b hb
    have hb2 := textLt_iff.1 (List.mem_filter.1 hb).2
    rw [List.mem_append, List.mem_singleton] at ha
    rcases ha with ha | rfl
    · exact List.lt_trans (textLt_iff.1 (List.mem_filter.1 ha).2) hb2
    · exact hb2
theorem asc_not {l : List FileD} (h : Asc l) (x : ByteArray) : Asc (filesNot l x) := h.filter _
theorem put_length (l : List FileD) (f : FileD) : (filesPut l f).length = (filesNot l f.name).length + 1 := by
  simp only [filesPut, lessAnd, filesLess, List.length_append, List.length_singleton, filesNot]
  suffices hs : (l.filter (isLess f)).length + (l.filter (isMore f)).length = (l.filter fun g => !(g.name.toList == f.name.toList)).length by omega
  induction l with
  | nil => rfl
  | cons g l ih =>
    rcases lt_tri g.name.toList f.name.toList with q | q | q
    · have a1 : isLess f g = true := textLt_iff.2 q
      have a2 : ¬ isMore f g = true := fun h => List.lt_irrefl _ (List.lt_trans q (textLt_iff.1 h))
      have a3 : (!(g.name.toList == f.name.toList)) = true := by
        rw [Bool.not_eq_true', beq_eq_false_iff_ne]; intro e; rw [e] at q; exact List.lt_irrefl _ q
      rw [List.filter_cons_of_pos a1, List.filter_cons_of_neg a2, List.filter_cons_of_pos (p := fun g : FileD => !(g.name.toList == f.name.toList)) a3, List.length_cons, List.length_cons]
      omega
    · have a1 : ¬ isLess f g = true := fun h => by have := textLt_iff.1 h; rw [q] at this; exact List.lt_irrefl _ this
      have a2 : ¬ isMore f g = true := fun h => by have := textLt_iff.1 h; rw [q] at this; exact List.lt_irrefl _ this
      have a3 : ¬ (!(g.name.toList == f.name.toList)) = true := by rw [q]; simp
      rw [List.filter_cons_of_neg a1, List.filter_cons_of_neg a2, List.filter_cons_of_neg (p := fun g : FileD => !(g.name.toList == f.name.toList)) a3]
      exact ih
    · have a1 : isMore f g = true := textLt_iff.2 q
      have a2 : ¬ isLess f g = true := fun h => List.lt_irrefl _ (List.lt_trans q (textLt_iff.1 h))
      have a3 : (!(g.name.toList == f.name.toList)) = true := by
        rw [Bool.not_eq_true', beq_eq_false_iff_ne]; intro e; rw [e] at q; exact List.lt_irrefl _ q
      rw [List.filter_cons_of_pos a1, List.filter_cons_of_neg a2, List.filter_cons_of_pos (p := fun g : FileD => !(g.name.toList == f.name.toList)) a3, List.length_cons, List.length_cons]
      omega
theorem not_all {l : List FileD} {x : ByteArray} (h : ∀ f ∈ l, f.name ≠ x) : filesNot l x = l := by
  rw [filesNot, List.filter_eq_self]
  intro f hf
  rw [Bool.not_eq_true', beq_eq_false_iff_ne]
  exact fun e => h f hf (text_eq e)
theorem not_length {l : List FileD} {x : ByteArray} (h : Asc l) (hx : ∃ f ∈ l, f.name = x) : (filesNot l x).length + 1 = l.length := by
  induction l with
  | nil => obtain ⟨f, hf, _⟩ := hx; cases hf
  | cons g l ih =>
    rw [Asc, List.pairwise_cons] at h
    by_cases e : g.name = x
    · have : filesNot (g :: l) x = l := by
        have h2 : filesNot l x = l := not_all fun f hf ef => by have := h.1 f hf; rw [e, ef] at this; exact List.lt_irrefl _ this
        unfold filesNot at h2 ⊢
        rw [List.filter_cons, e]
        simpa using h2
      rw [this]
      rfl
    · obtain ⟨f, hf, rfl⟩ := hx
      rcases List.mem_cons.1 hf with q | q
      · subst q; exact absurd rfl e
      · have h3 : (g.name.toList == f.name.toList) = false := by rw [beq_eq_false_iff_ne]; exact fun q => e (text_eq q)
        have := ih h.2 ⟨f, q, rfl⟩
        unfold filesNot at this ⊢
        rw [List.filter_cons, h3]
        simp only [Bool.not_false, if_true, List.length_cons]
        omega

/-- the first file of a name -/
def foundOf (l : List FileD) (s : ByteArray) : Option FileD := l.find? fun f => f.name.toList == s.toList
theorem found_none {l : List FileD} {s : ByteArray} (h : NoneAt l s) : foundOf l s = none := by
  rw [foundOf, List.find?_eq_none]
  intro f hf
  obtain ⟨j, hj, rfl⟩ := List.getElem_of_mem hf
  simp only [beq_iff_eq]
  exact fun e => h j hj (text_eq e)
theorem found_some {l : List FileD} {s : ByteArray} {k : Nat} (h : FirstAt l s k) : foundOf l s = some (l[k]'h.1) := by
  obtain ⟨hk, he, hn⟩ := h
  rw [foundOf, List.find?_eq_some_iff_getElem]
  refine ⟨by rw [he]; simp, k, hk, rfl, fun j hj => ?_⟩
  rw [Bool.not_eq_true', beq_eq_false_iff_ne]
  exact fun e => hn j hj (text_eq e)
theorem found_mem {l : List FileD} {s : ByteArray} {f : FileD} (h : foundOf l s = some f) : f ∈ l ∧ f.name = s := by
  rw [foundOf] at h
  refine ⟨List.mem_of_find?_eq_some h, ?_⟩
  have := List.find?_some h
  exact text_eq (by simpa using this)
theorem found_not {l : List FileD} {s : ByteArray} (h : foundOf l s = none) : ∀ f ∈ l, f.name ≠ s := by
  rw [foundOf, List.find?_eq_none] at h
  intro f hf e
  have := h f hf
  rw [e] at this
  simp at this

/-- no letter -/
def blank (s : ByteArray) : Bool := s.toList == []
def actOk (l : List FileD) (a : ActD) : Bool := diskOk l && nameOk a.name && (a.kind == 3 || blank a.to) && (a.kind == 1 || blank a.text)
/-- what an act would leave -/
def doTry (l : List FileD) (a : ActD) : Option (List FileD) :=
  if a.kind = 1 then some (filesPut l ⟨a.name, ((foundOf l a.name).getD ⟨a.name, ByteArray.empty, 0⟩).text ++ a.text, ((foundOf l a.name).getD ⟨a.name, ByteArray.empty, 0⟩).kept⟩)
  else match foundOf l a.name with
    | none => none
    | some f => if a.kind = 2 then some (filesPut l ⟨f.name, f.text, f.text.size⟩)
      else if a.kind = 3 then (if (decide (f.kept < f.text.size) || a.to.toList == a.name.toList || !nameOk a.to) = true then none else some (filesPut (filesNot l a.name) ⟨a.to, f.text, f.kept⟩))
      else if a.kind = 4 then some (filesNot l a.name) else none
def doAct (l : List FileD) (a : ActD) : Option (List FileD) :=
  if actOk l a = true then (match doTry l a with
    | none => none
    | some o => if diskOk o = true then some o else none) else none
theorem doAct_right {l o : List FileD} {a : ActD} (h : doAct l a = some o) : diskOk o = true := by
  unfold doAct at h
  split at h
  · split at h
    · cases h
    · split at h
      · cases h; assumption
      · cases h
  · cases h
def doAns (l : List FileD) (a : ActD) : List FileD × Bool := match doAct l a with
  | none => ([], false)
  | some o => (o, true)
end Go.Proofs.YtoanhjjigbjecaaGreatDoor

namespace Go.Proofs.YtoanhjjigbjecaaGreatDoor
open Go.RowKit

theorem found_right {l : List FileD} {s : ByteArray} {f : FileD} (hd : diskOk l = true) (hf : foundOf l s = some f) : nameOk s = true ∧ f.text.size ≤ 20000 ∧ 0 ≤ f.kept ∧ f.kept ≤ f.text.size := by
  obtain ⟨hm, hn⟩ := found_mem hf
  have := (diskOk_iff.1 hd).2.1 f hm
  simp only [fileOk, Bool.and_eq_true, decide_eq_true_eq, within] at this
  exact ⟨by rw [← hn]; exact this.1.1, this.1.2, this.2.1, this.2.2⟩
theorem put_right {l : List FileD} {f : FileD} (hd : diskOk l = true) (hf : fileOk f = true) (hl : (filesPut l f).length ≤ 30) : diskOk (filesPut l f) = true := by
  obtain ⟨_, h2, h3⟩ := diskOk_iff.1 hd
  refine diskOk_iff.2 ⟨hl, fun g hg => ?_, asc_put h3 f⟩
  rcases mem_put.1 hg with rfl | ⟨h, _⟩
  · exact hf
  · exact h2 g h
theorem not_right {l : List FileD} {x : ByteArray} (hd : diskOk l = true) : diskOk (filesNot l x) = true := by
  obtain ⟨h1, h2, h3⟩ := diskOk_iff.1 hd
  exact diskOk_iff.2 ⟨Nat.le_trans (List.length_filter_le _ _) h1, fun g hg => h2 g (mem_not.1 hg).1, asc_not h3 x⟩
theorem put_same_length {l : List FileD} {f g : FileD} (hd : diskOk l = true) (hf : foundOf l f.name = some g) : (filesPut l f).length = l.length := by
  obtain ⟨hm, hn⟩ := found_mem hf
  rw [put_length, not_length (diskOk_iff.1 hd).2.2 ⟨g, hm, hn⟩]
theorem put_new_length {l : List FileD} {f : FileD} (hf : foundOf l f.name = none) : (filesPut l f).length = l.length + 1 := by
  rw [put_length, not_all (found_not hf)]
theorem put_wrong {l : List FileD} {f : FileD} (h : fileOk f = false) : diskOk (filesPut l f) = false := by
  cases hd : diskOk (filesPut l f) with
  | false => rfl
  | true => rw [(diskOk_iff.1 hd).2.1 f (mem_put.2 (Or.inl rfl))] at h; cases h

theorem blank_empty : blank ByteArray.empty = true := by rw [blank, ByteArray.toList_eq]; rfl
theorem actOk_of {l : List FileD} {a : ActD} (hd : diskOk l = true) (hn : nameOk a.name = true) (h3 : a.kind = 3 ∨ a.to = ByteArray.empty) (h1 : a.kind = 1 ∨ a.text = ByteArray.empty) : actOk l a = true := by
  unfold actOk
  rw [hd, hn]
  simp only [Bool.true_and, Bool.and_eq_true, Bool.or_eq_true, beq_iff_eq]
  exact ⟨h3.imp id fun e => by rw [e]; exact blank_empty, h1.imp id fun e => by rw [e]; exact blank_empty⟩
theorem size_add (s t : ByteArray) : (s ++ t).size = s.size + t.size := by simp

theorem doAct_add_found {l : List FileD} {name text : ByteArray} {f : FileD} (hd : diskOk l = true) (hf : foundOf l name = some f) :
    doAct l ⟨1, name, text, ByteArray.empty⟩ = if f.text.size + text.size ≤ 20000 then some (filesPut l ⟨name, f.text ++ text, f.kept⟩) else none := by
  obtain ⟨r1, r2, r3, r4⟩ := found_right hd hf
  rw [doAct, if_pos (actOk_of hd r1 (Or.inr rfl) (Or.inl rfl)), doTry, if_pos rfl]
  dsimp only
  rw [hf]
  dsimp only [Option.getD]
  by_cases h : f.text.size + text.size ≤ 20000
  · rw [if_pos h, if_pos (put_right hd (by simp only [fileOk, r1, within, size_add, Bool.true_and, Bool.and_eq_true, decide_eq_true_eq]; omega) (by rw [put_same_length hd hf]; exact (diskOk_iff.1 hd).1))]
  · rw [if_neg h, if_neg (by rw [put_wrong (by simp [fileOk, h])]; simp)]
theorem doAct_add_new {l : List FileD} {name text : ByteArray} (hd : diskOk l = true) (hf : foundOf l name = none) :
    doAct l ⟨1, name, text, ByteArray.empty⟩ = if nameOk name = true ∧ l.length < 30 ∧ text.size ≤ 20000 then some (filesPut l ⟨name, ByteArray.empty ++ text, 0⟩) else none := by
  by_cases hn : nameOk name = true
  · rw [doAct, if_pos (actOk_of hd hn (Or.inr rfl) (Or.inl rfl)), doTry, if_pos rfl]
    dsimp only
    rw [hf]
    dsimp only [Option.getD]
    have hlen := put_new_length (f := ⟨name, ByteArray.empty ++ text, 0⟩) hf
    by_cases h : l.length < 30 ∧ text.size ≤ 20000
    · have hsz : (ByteArray.empty ++ text).size = text.size := by rw [size_add]; simp
      rw [if_pos (put_right hd (by simp only [fileOk, hn, within, hsz, Bool.true_and, Bool.and_eq_true, decide_eq_true_eq]; omega) (by rw [hlen]; omega)), if_pos ⟨hn, h⟩]
    · rw [if_neg, if_neg (fun q => h q.2)]
      intro hq
      obtain ⟨q1, q2, _⟩ := diskOk_iff.1 hq
      have q3 := q2 _ (mem_put.2 (Or.inl rfl))
      have hsz : (ByteArray.empty ++ text).size = text.size := by rw [size_add]; simp
      simp only [fileOk, Bool.and_eq_true, decide_eq_true_eq, hsz] at q3
      exact h ⟨by omega, q3.1.2⟩
  · rw [if_neg (fun q => hn q.1), doAct, if_neg]
    intro q
    simp only [actOk, Bool.and_eq_true] at q
    exact hn q.1.1.2
theorem doAct_keep_found {l : List FileD} {name : ByteArray} {f : FileD} (hd : diskOk l = true) (hf : foundOf l name = some f) :
    doAct l ⟨2, name, ByteArray.empty, ByteArray.empty⟩ = some (filesPut l ⟨name, f.text, f.text.size⟩) := by
  obtain ⟨r1, r2, r3, r4⟩ := found_right hd hf
  have hfn := (found_mem hf).2
  rw [doAct, if_pos (actOk_of hd r1 (Or.inr rfl) (Or.inr rfl)), doTry, if_neg (by simp)]
  dsimp only
  rw [hf]
  dsimp only
  rw [if_pos rfl, hfn]
  dsimp only
  rw [if_pos (put_right hd (by simp only [fileOk, r1, within, Bool.true_and, Bool.and_eq_true, decide_eq_true_eq]; omega) (by rw [put_same_length hd hf]; exact (diskOk_iff.1 hd).1))]
theorem doAct_drop_found {l : List FileD} {name : ByteArray} {f : FileD} (hd : diskOk l = true) (hf : foundOf l name = some f) :
    doAct l ⟨4, name, ByteArray.empty, ByteArray.empty⟩ = some (filesNot l name) := by
  obtain ⟨r1, _⟩ := found_right hd hf
  rw [doAct, if_pos (actOk_of hd r1 (Or.inr rfl) (Or.inr rfl)), doTry, if_neg (by simp)]
  dsimp only
  rw [hf]
  dsimp only
  rw [if_neg (by simp), if_neg (by simp), if_pos rfl]
  dsimp only
  rw [if_pos (not_right hd)]
theorem doAct_move_found {l : List FileD} {name to : ByteArray} {f : FileD} (hd : diskOk l = true) (hf : foundOf l name = some f) :
    doAct l ⟨3, name, ByteArray.empty, to⟩ = if (decide (f.kept < f.text.size) || to.toList == name.toList || !nameOk to) = true then none else some (filesPut (filesNot l name) ⟨to, f.text, f.kept⟩) := by
  obtain ⟨r1, r2, r3, r4⟩ := found_right hd hf
  obtain ⟨hm, hfn⟩ := found_mem hf
  rw [doAct, if_pos (actOk_of hd r1 (Or.inl rfl) (Or.inr rfl)), doTry, if_neg (by simp)]
  dsimp only
  rw [hf]
  dsimp only
  rw [if_neg (by simp), if_pos rfl]
  by_cases h : (decide (f.kept < f.text.size) || to.toList == name.toList || !nameOk to) = true
  · rw [if_pos h]
  · rw [if_neg h]
    dsimp only
    have hto : nameOk to = true := by
      cases q : nameOk to with
      | true => rfl
      | false => rw [q] at h; simp at h
    have hlen := not_length (diskOk_iff.1 hd).2.2 ⟨f, hm, hfn⟩
    have hps : (filesPut (filesNot l name) ⟨to, f.text, f.kept⟩).length ≤ 30 := by
      rw [put_length]
      have : (filesNot (filesNot l name) to).length ≤ (filesNot l name).length := List.length_filter_le _ _
      have := (diskOk_iff.1 hd).1
      show (filesNot (filesNot l name) to).length + 1 ≤ 30
      omega
    rw [if_pos (put_right (not_right hd) (by simp only [fileOk, hto, within, Bool.true_and, Bool.and_eq_true, decide_eq_true_eq]; omega) hps)]
theorem doAct_none {l : List FileD} {a : ActD} (hk : a.kind ≠ 1) (hf : foundOf l a.name = none) : doAct l a = none := by
  rw [doAct, doTry, if_neg hk, hf]
  split <;> rfl
theorem doAct_other {l : List FileD} {a : ActD} (h1 : a.kind ≠ 1) (h2 : a.kind ≠ 2) (h3 : a.kind ≠ 3) (h4 : a.kind ≠ 4) : doAct l a = none := by
  cases hf : foundOf l a.name with
  | none => exact doAct_none h1 hf
  | some f =>
    rw [doAct, doTry, if_neg h1, hf]
    dsimp only
    rw [if_neg h2, if_neg h3, if_neg h4]
    split <;> rfl
theorem doAct_bad {l : List FileD} {a : ActD} (h : (a.kind ≠ 1 ∧ blank a.text = false) ∨ (a.kind ≠ 3 ∧ blank a.to = false)) : doAct l a = none := by
  rw [doAct, if_neg]
  intro q
  simp only [actOk, Bool.and_eq_true, Bool.or_eq_true, beq_iff_eq] at q
  rcases h with ⟨h1, h2⟩ | ⟨h1, h2⟩
  · rcases q.2 with q | q
    · exact h1 q
    · rw [h2] at q; cases q
  · rcases q.1.2 with q | q
    · exact h1 q
    · rw [h2] at q; cases q
end Go.Proofs.YtoanhjjigbjecaaGreatDoor

namespace Go.Proofs.YtoanhjjigbjecaaGreatDoor
open Go.RowKit

def ActsSmall (acts : List ActD) : Prop := ∀ a ∈ acts, a.name.size ≤ 1048576 ∧ a.text.size ≤ 1048576 ∧ a.to.size ≤ 1048576
/-- what the first k acts leave, if all are true -/
def doTo (l : List FileD) (acts : List ActD) : Nat → Option (List FileD)
  | 0 => some l
  | k + 1 => (doTo l acts k).bind fun o => match acts[k]? with
    | none => none
    | some a => doAct o a
theorem doTo_step {l o : List FileD} {acts : List ActD} {k : Nat} (hk : k < acts.length) (h : doTo l acts k = some o) : doTo l acts (k + 1) = doAct o acts[k] := by
  rw [doTo, h, Option.bind_some, List.getElem?_eq_getElem hk]
theorem doTo_right {l o : List FileD} {acts : List ActD} (hd : diskOk l = true) : ∀ {k : Nat}, doTo l acts k = some o → diskOk o = true
  | 0, h => by cases h; exact hd
  | k + 1, h => by
    rw [doTo] at h
    obtain ⟨o', _, h2⟩ := Option.bind_eq_some_iff.1 h
    split at h2
    · cases h2
    · exact doAct_right h2
theorem doAct_wrong {l : List FileD} {a : ActD} (hd : diskOk l = false) : doAct l a = none := by
  rw [doAct, if_neg (by simp [actOk, hd])]
/-- what DoActs answers -/
def DidActs (w : World) (l : List FileD) (acts : List ActD) (OK : World → List FileD → Option Addr → Prop) (e : Ending) (w' : World) : Prop :=
  ∃ (i : Nat) (o : List FileD) (va : Option Addr) (vc : Nat), e = .returned (.tuple #[.agg #[.slice va o.length vc], .int .i64 i]) ∧ (doTo l acts i = some o ∧ i ≤ acts.length ∧ (i = acts.length ∨ doTo l acts (i + 1) = none)) ∧ OK w' o va ∧ Below w.heap.size w w'
end Go.Proofs.YtoanhjjigbjecaaGreatDoor

namespace Go.Proofs.YtoanhjjigbjecaaGreatDoor
open Go.RowKit

def doAll (l : List FileD) : List ActD → List FileD × Nat
  | [] => (l, 0)
  | a :: r => match doAct l a with
    | none => (l, 0)
    | some o => ((doAll o r).1, (doAll o r).2 + 1)
theorem doTo_cons (l : List FileD) (a : ActD) (r : List ActD) : ∀ k, doTo l (a :: r) (k + 1) = (doAct l a).bind fun o => doTo o r k
  | 0 => by
    rw [doTo, doTo, Option.bind_some]
    simp [doTo]
  | k + 1 => by
    rw [doTo, doTo_cons l a r k, Option.bind_assoc]
    rfl
theorem doAll_eq {acts : List ActD} : ∀ {l o : List FileD} {i : Nat}, doTo l acts i = some o → i ≤ acts.length → (i = acts.length ∨ doTo l acts (i + 1) = none) → doAll l acts = (o, i) := by
  induction acts with
  | nil =>
    intro l o i h hi _
    obtain rfl : i = 0 := by simpa using hi
    cases h
    rfl
  | cons a r ih =>
    intro l o i h hi hor
    cases i with
    | zero =>
      cases h
      have h1 : doTo l (a :: r) 1 = none := hor.resolve_left (by simp)
      rw [doTo_cons] at h1
      cases hd : doAct l a with
      | none => simp [doAll, hd]
      | some o' => rw [hd] at h1; simp [doTo] at h1
    | succ i =>
      rw [doTo_cons] at h
      cases hd : doAct l a with
      | none => rw [hd] at h; cases h
      | some o' =>
        rw [hd, Option.bind_some] at h
        have := ih h (by simpa using hi) (by
          rcases hor with q | q
          · exact Or.inl (by simpa using q)
          · rw [doTo_cons, hd, Option.bind_some] at q; exact Or.inr q)
        simp [doAll, hd, this]
theorem doTo_small {l o : List FileD} {acts : List ActD} (hl : l.length ≤ 1048576) : ∀ {k : Nat}, doTo l acts k = some o → o.length ≤ 1048576
  | 0, h => by cases h; exact hl
  | k + 1, h => by
    rw [doTo] at h
    obtain ⟨o', _, h2⟩ := Option.bind_eq_some_iff.1 h
    split at h2
    · cases h2
    · have := (diskOk_iff.1 (doAct_right h2)).1; omega
theorem doAll_small {l : List FileD} {acts : List ActD} (hl : l.length ≤ 1048576) : (doAll l acts).1.length ≤ 1048576 := by
  induction acts generalizing l with
  | nil => exact hl
  | cons a r ih =>
    rw [doAll]
    cases hd : doAct l a with
    | none => exact hl
    | some o => have := (diskOk_iff.1 (doAct_right hd)).1; exact ih (by omega)
end Go.Proofs.YtoanhjjigbjecaaGreatDoor

namespace Go.Proofs.YtoanhjjigbjecaaGreatDoor
open Go.RowKit

theorem asc_eq : ∀ {l m : List FileD}, Asc l → Asc m → (∀ x, x ∈ l ↔ x ∈ m) → l = m
  | [], [], _, _, _ => rfl
  | [], b :: m, _, _, h => by have := (h b).2 (by simp); cases this
  | a :: l, [], _, _, h => by have := (h a).1 (by simp); cases this
  | a :: l, b :: m, hl, hm, h => by
    obtain ⟨hl1, hl2⟩ := List.pairwise_cons.1 hl
    obtain ⟨hm1, hm2⟩ := List.pairwise_cons.1 hm
    have hab : a = b := by
      rcases List.mem_cons.1 ((h a).1 (by simp)) with e | e
      · exact e
      · rcases List.mem_cons.1 ((h b).2 (by simp)) with q | q
        · exact q.symm
        · exact absurd (List.lt_trans (hl1 b q) (hm1 a e)) (List.lt_irrefl _)
    subst hab
    have hni : ∀ x ∈ l, x ≠ a := fun x hx e => by have := hl1 x hx; rw [e] at this; exact List.lt_irrefl _ this
    have hnm : ∀ x ∈ m, x ≠ a := fun x hx e => by have := hm1 x hx; rw [e] at this; exact List.lt_irrefl _ this
    rw [asc_eq hl2 hm2 fun x => ⟨fun hx => (List.mem_cons.1 ((h x).1 (List.mem_cons_of_mem _ hx))).resolve_left (hni x hx), fun hx => (List.mem_cons.1 ((h x).2 (List.mem_cons_of_mem _ hx))).resolve_left (hnm x hx)⟩]
theorem put_put {l : List FileD} (h : Asc l) {f g : FileD} (e : g.name = f.name) : filesPut (filesPut l f) g = filesPut l g := by
  refine asc_eq (asc_put (asc_put h f) g) (asc_put h g) fun x => ?_
  rw [mem_put, mem_put, mem_put, e]
  constructor
  · rintro (q | ⟨q | ⟨q, _⟩, q2⟩)
    · exact Or.inl q
    · exact absurd (by rw [q]) q2
    · exact Or.inr ⟨q, q2⟩
  · rintro (q | ⟨q, q2⟩)
    · exact Or.inl q
    · exact Or.inr ⟨Or.inr ⟨q, q2⟩, q2⟩
theorem not_put {l : List FileD} (h : Asc l) (f : FileD) : filesNot (filesPut l f) f.name = filesNot l f.name := by
  refine asc_eq (asc_not (asc_put h f) _) (asc_not h _) fun x => ?_
  rw [mem_not, mem_not, mem_put]
  constructor
  · rintro ⟨q | ⟨q, _⟩, q2⟩
    · exact absurd (by rw [q]) q2
    · exact ⟨q, q2⟩
  · rintro ⟨q, q2⟩
    exact ⟨Or.inr ⟨q, q2⟩, q2⟩
theorem not_put_far {l : List FileD} (h : Asc l) {f : FileD} {x : ByteArray} (hx : f.name ≠ x) : filesNot (filesPut l f) x = filesPut (filesNot l x) f := by
  refine asc_eq (asc_not (asc_put h f) _) (asc_put (asc_not h x) f) fun y => ?_
  rw [mem_not, mem_put, mem_put, mem_not]
  constructor
  · rintro ⟨q | ⟨q, q2⟩, q3⟩
    · exact Or.inl q
    · exact Or.inr ⟨⟨q, q3⟩, q2⟩
  · rintro (q | ⟨⟨q, q3⟩, q2⟩)
    · exact ⟨Or.inl q, by rw [q]; exact hx⟩
    · exact ⟨Or.inr ⟨q, q2⟩, q3⟩
theorem asc_one {l : List FileD} (h : Asc l) {f g : FileD} (hf : f ∈ l) (hg : g ∈ l) (e : f.name = g.name) : f = g := by
  induction l with
  | nil => cases hf
  | cons a l ih =>
    obtain ⟨h1, h2⟩ := List.pairwise_cons.1 h
    rcases List.mem_cons.1 hf with qf | qf <;> rcases List.mem_cons.1 hg with qg | qg
    · rw [qf, qg]
    · have := h1 g qg; rw [← qf, e] at this; exact absurd this (List.lt_irrefl _)
    · have := h1 f qf; rw [← qg, e] at this; exact absurd this (List.lt_irrefl _)
    · exact ih h2 qf qg
theorem found_of {l : List FileD} (h : Asc l) {f : FileD} (hf : f ∈ l) : foundOf l f.name = some f := by
  cases hq : foundOf l f.name with
  | none => exact absurd rfl (found_not hq f hf)
  | some g => rw [asc_one h (found_mem hq).1 hf (found_mem hq).2]
theorem found_put {l : List FileD} (h : Asc l) (f : FileD) : foundOf (filesPut l f) f.name = some f := found_of (asc_put h f) (mem_put.2 (Or.inl rfl))
theorem found_no {l : List FileD} {s : ByteArray} (h : ∀ f ∈ l, f.name ≠ s) : foundOf l s = none := by
  cases hq : foundOf l s with
  | none => rfl
  | some g => exact absurd (found_mem hq).2 (h g (found_mem hq).1)
theorem put_nil (f : FileD) : filesPut [] f = [f] := rfl

/-- all acts are done, and leave this -/
def Does' (l : List FileD) (acts : List ActD) (o : List FileD) : Prop := doTo l acts acts.length = some o
theorem does_nil (l : List FileD) : Does' l [] l := rfl
theorem does_cons {l m o : List FileD} {a : ActD} {r : List ActD} (h : doAct l a = some m) (h2 : Does' m r o) : Does' l (a :: r) o := by
  rw [Does', List.length_cons, doTo_cons, h, Option.bind_some]
  exact h2
theorem does_app : ∀ {a b : List ActD} {l m o : List FileD}, Does' l a m → Does' m b o → Does' l (a ++ b) o
  | [], _, l, m, o, h, h2 => by cases h; exact h2
  | x :: a, b, l, m, o, h, h2 => by
    rw [Does', List.length_cons, doTo_cons] at h
    obtain ⟨q, h3, h4⟩ := Option.bind_eq_some_iff.1 h
    exact does_cons h3 (does_app h4 h2)
theorem does_all {l o : List FileD} {acts : List ActD} (h : Does' l acts o) : doAll l acts = (o, acts.length) := doAll_eq h (Nat.le_refl _) (Or.inl rfl)
end Go.Proofs.YtoanhjjigbjecaaGreatDoor

namespace Go.Proofs.YtoanhjjigbjecaaGreatDoor
open Go.RowKit

/-- a part of a text at a place -/
theorem rs_at {t s : ByteArray} {k : Nat} {r : List UInt8} (hk : k ≤ t.size) (hs : s.size ≤ 20000) (h : t.data.toList.drop k = (shortT s).data.toList ++ r) : rs t (k : Int) = some (k + (vb s.size).length, k + (vb s.size).length + s.size) ∧ t.extract (k + (vb s.size).length) (k + (vb s.size).length + s.size) = s ∧ t.data.toList.drop (k + (vb s.size).length + s.size) = r := by
  have hsl : s.data.toList.length = s.size := Array.length_toList
  have htl : t.data.toList.length = t.size := Array.length_toList
  have h1 : (shortT s).data.toList = vb s.size ++ s.data.toList := by simp [shortT, ByteArray.data_append]
  rw [h1, List.append_assoc] at h
  have hl := congrArg List.length h
  rw [List.length_drop, List.length_append, List.length_append, hsl, htl] at hl
  have hd : t.data.toList.drop (k + (vb s.size).length) = s.data.toList ++ r := by rw [← List.drop_drop, h, List.drop_left]
  refine ⟨rs_yes hk (by rw [h]; exact rv_vb (by omega) _) ⟨hs, by omega⟩, ?_, ?_⟩
  · apply ByteArray.ext
    apply Array.toList_inj.1
    rw [extract_eq, hd, Nat.add_sub_cancel_left, ← hsl, List.take_left]
  · rw [← List.drop_drop, hd, ← hsl, List.drop_left]
theorem snapIn_back {ix tm : Nat} {zs : List Int} {bd : ByteArray} (h1 : ix ≤ 1000000) (h2 : tm ≤ 100000) (h3 : confOk zs = true) (h4 : (snapIn ix tm zs bd).size ≤ 19996) : readSnapIn (snapIn ix tm zs bd) = some ⟨ix, tm, zs, bd⟩ := by
  obtain ⟨t, ht⟩ : ∃ t, snapIn ix tm zs bd = t := ⟨_, rfl⟩
  have hl : t.data.toList = vb ix ++ (vb tm ++ ((shortT ⟨(confBytes zs).toArray⟩).data.toList ++ ((shortT bd).data.toList ++ []))) := by
    rw [← ht]
    simp [snapIn, ByteArray.data_append, List.append_assoc]
  have htl : t.data.toList.length = t.size := Array.length_toList
  have hsz := snapIn_size ix tm zs bd
  rw [shortT_size, shortT_size, ht] at hsz
  rw [ht] at h4 ⊢
  have d1 : t.data.toList.drop (vb ix).length = vb tm ++ ((shortT ⟨(confBytes zs).toArray⟩).data.toList ++ ((shortT bd).data.toList ++ [])) := by rw [hl, List.drop_left]
  have d2 : t.data.toList.drop ((vb ix).length + (vb tm).length) = (shortT ⟨(confBytes zs).toArray⟩).data.toList ++ ((shortT bd).data.toList ++ []) := by rw [← List.drop_drop, d1, List.drop_left]
  have hcz := confBytes_size zs
  have hc4 := (confOk_len h3).2
  obtain ⟨r1, r2, r3⟩ := rs_at (by omega) (by omega) d2
  obtain ⟨q1, q2, _⟩ := rs_at (by omega) (by omega) r3
  have e0 : rv (t.data.toList.drop 0) = some (ix, (vb ix).length) := by rw [List.drop_zero, hl]; exact rv_vb (by omega) _
  have e1 : rv (t.data.toList.drop (vb ix).length) = some (tm, (vb tm).length) := by rw [d1]; exact rv_vb (by omega) _
  have hz : intsOf (confBytes zs) = zs := ints_back fun z hz => by
    obtain ⟨k, hk, rfl⟩ := List.getElem_of_mem hz
    exact confOk_at h3 hk
  rw [rsi5 e0 (by omega) e1 (by omega)]
  have hz2 : intsOf ((⟨(confBytes zs).toArray⟩ : ByteArray).data.toList) = zs := hz
  rw [rsb3 r1 (by rw [r2, hz2]; exact h3), r2, hz2, rsc2 q1, q2, if_pos]
  omega
theorem snap_back {ix tm : Int} {zs : List Int} {bd : ByteArray} (h : snapOk ix tm zs bd = true) : readSnap (snapText ix tm zs bd).1 = some ⟨ix.toNat, tm.toNat, zs, bd⟩ := by
  obtain ⟨h1, h2, h3⟩ := snapOk_iff.1 h
  rw [snapText_yes h]
  have hs : (sealOf (snapIn ix.toNat tm.toNat zs bd)).size ≤ 20000 := by rw [sealOf_size]; omega
  rw [readSnap_sealed ⟨sealOf_uns (by omega), hs⟩, sealOf_head]
  exact snapIn_back (by omega) (by omega) h1 h3

theorem sNew_ok : nameOk sNew = true := by decide
theorem sname_ok {n : Int} (h : 0 ≤ n ∧ n ≤ 1000000) : nameOk (sname n) = true := by
  have h1 := dec_small7 h
  rw [sname_yes (within_yes h.1 h.2), nameOk, ByteArray.size_append]
  have : (⟨#[115]⟩ : ByteArray).size = 1 := rfl
  exact within_yes (by omega) (by omega)
theorem sname_list {n : Int} (h : 0 ≤ n ∧ n ≤ 1000000) : (sname n).data.toList = 115 :: dec n := by
  rw [sname_yes (within_yes h.1 h.2)]
  simp [ByteArray.data_append]
theorem sname_num {n : Nat} (h : n ≤ 1000000) : nameNum 115 1000000 (sname n) = some n := (nameNum_some (by omega)).2 ⟨h, sname_list (by omega)⟩
theorem sname_other {n : Nat} {ix : Int} (h : n ≤ 1000000) (hn : (n : Int) ≠ ix) : isOther ix (sname n) = true := by
  rw [isOther_some (sname_num h)]
  simp [hn]
theorem sname_same {n : Nat} (h : n ≤ 1000000) : isOther (n : Int) (sname n) = false := by
  rw [isOther_some (sname_num h)]
  simp
theorem new_new : isNew sNew = true := by rw [isNew_iff]; rfl
theorem sname_not_new {n : Nat} (h : n ≤ 1000000) : isNew (sname n) = false := by
  cases hq : isNew (sname n) with
  | false => rfl
  | true =>
    have h2 := sname_other (ix := (n : Int) + 1) h (by omega)
    rw [new_not_other hq] at h2
    cases h2
theorem sname_ne_new {n : Nat} (h : n ≤ 1000000) : sname n ≠ sNew := fun e => by
  have := sname_not_new h
  rw [e, new_new] at this
  cases this

theorem chunk_app (t : ByteArray) (k : Nat) (h : 60 * k ≤ t.size) : t.extract 0 (min (60 * k) t.size) ++ chunkAt t k = t.extract 0 (min (60 * (k + 1)) t.size) := by
  have hl : t.data.toList.length = t.size := Array.length_toList
  apply ByteArray.ext
  apply Array.toList_inj.1
  rw [ByteArray.data_append, Array.toList_append, chunkAt, extract_eq, extract_eq, extract_eq, List.drop_zero, Nat.sub_zero, Nat.sub_zero, Nat.min_eq_left h]
  rw [show min (60 * (k + 1)) t.size = 60 * k + (min (60 * k + 60) t.size - 60 * k) by omega, List.take_add]
/-- the text is written, chunk by chunk -/
theorem does_chunks {l : List FileD} {t : ByteArray} (hd : diskOk l = true) (hn : foundOf l sNew = none) (hl : l.length < 30) (ht : t.size ≤ 20000) : ∀ k, k + 1 ≤ chunks t.size → Does' l (chunksTo t (k + 1)) (filesPut l ⟨sNew, t.extract 0 (min (60 * (k + 1)) t.size), 0⟩)
  | 0, hk => by
    have h0 := chunks_lt hk
    rw [chunksTo_succ, chunksTo]
    refine does_cons ?_ (does_nil _)
    rw [addA]
    have := doAct_add_new (text := chunkAt t 0) hd hn
    have hz : (chunkAt t 0).size ≤ 20000 := by rw [chunkAt, ByteArray.size_extract]; omega
    rw [if_pos ⟨sNew_ok, hl, hz⟩] at this
    have e := chunk_app t 0 (by omega)
    have e0 : t.extract 0 (min (60 * 0) t.size) = ByteArray.empty := by
      apply ByteArray.ext
      apply Array.toList_inj.1
      rw [extract_eq]
      simp
    rw [← e, e0]
    exact this
  | k + 1, hk => by
    have hr := does_chunks hd hn hl ht k (by omega)
    have hc := chunks_lt (show k + 1 < chunks t.size by omega)
    rw [chunksTo_succ]
    refine does_app hr (does_cons ?_ (does_nil _))
    have hf := found_put (diskOk_iff.1 hd).2.2 ⟨sNew, t.extract 0 (min (60 * (k + 1)) t.size), 0⟩
    have hsz : (t.extract 0 (min (60 * (k + 1)) t.size)).size = 60 * (k + 1) := by rw [ByteArray.size_extract]; omega
    have hd2 : diskOk (filesPut l ⟨sNew, t.extract 0 (min (60 * (k + 1)) t.size), 0⟩) = true := put_right hd (by simp only [fileOk, sNew_ok, within, Bool.true_and, Bool.and_eq_true, decide_eq_true_eq]; omega) (by rw [put_new_length hn]; omega)
    have := doAct_add_found (text := chunkAt t (k + 1)) hd2 hf
    have hz : (chunkAt t (k + 1)).size = min (60 * (k + 1) + 60) t.size - 60 * (k + 1) := by rw [chunkAt, ByteArray.size_extract]; omega
    rw [if_pos (by show (t.extract 0 (min (60 * (k + 1)) t.size)).size + _ ≤ _; omega)] at this
    rw [addA]
    refine this.trans ?_
    show some (filesPut (filesPut l _) ⟨sNew, t.extract 0 (min (60 * (k + 1)) t.size) ++ chunkAt t (k + 1), 0⟩) = _
    have hp := put_put (l := l) (f := ⟨sNew, t.extract 0 (min (60 * (k + 1)) t.size), 0⟩) (g := ⟨sNew, t.extract 0 (min (60 * (k + 1)) t.size) ++ chunkAt t (k + 1), 0⟩) (diskOk_iff.1 hd).2.2 rfl
    rw [hp, chunk_app t (k + 1) (by omega)]
theorem extract_whole (t : ByteArray) : t.extract 0 t.size = t := by
  apply ByteArray.ext
  apply Array.toList_inj.1
  have hl : t.data.toList.length = t.size := Array.length_toList
  rw [extract_eq, List.drop_zero, List.take_of_length_le (by omega)]
theorem does_drops {g : FileD} {p : ByteArray → Bool} (hg : p g.name = false) : ∀ {l : List FileD}, diskOk (filesPut l g) = true → Asc l → (∀ f ∈ l, p f.name = true) → Does' (filesPut l g) (dropsOf p l) [g]
  | [], _, _, _ => does_nil _
  | f :: l, hd, ha, h => by
    have hne : g.name ≠ f.name := fun e => by have := h f List.mem_cons_self; rw [← e, hg] at this; cases this
    have hfl : filesNot (f :: l) f.name = l := by
      refine asc_eq (asc_not ha _) (List.pairwise_cons.1 ha).2 fun x => ?_
      rw [mem_not, List.mem_cons]
      constructor
      · rintro ⟨q | q, q2⟩
        · exact absurd (by rw [q]) q2
        · exact q
      · intro q
        exact ⟨Or.inr q, fun e => by have := (List.pairwise_cons.1 ha).1 x q; rw [e] at this; exact List.lt_irrefl _ this⟩
    have hnx : filesNot (filesPut (f :: l) g) f.name = filesPut l g := by rw [not_put_far ha hne, hfl]
    have hdo : doAct (filesPut (f :: l) g) (dropA f.name) = some (filesPut l g) := by
      rw [← hnx]
      exact doAct_drop_found hd (found_of (asc_put ha g) (mem_put.2 (Or.inr ⟨List.mem_cons_self, fun e => hne e.symm⟩)))
    have e : dropsOf p (f :: l) = dropA f.name :: dropsOf p l := by
      unfold dropsOf
      rw [List.filter_cons_of_pos (p := fun f : FileD => p f.name) (h f List.mem_cons_self)]
      rfl
    rw [e]
    exact does_cons hdo (does_drops hg (doAct_right hdo) (List.pairwise_cons.1 ha).2 fun f' hf' => h f' (List.mem_cons_of_mem _ hf'))
/-- what the acts of a newer snapshot leave of elder ones -/
theorem snaps_done {l : List FileD} {ix : Nat} {tm : Int} {zs : List Int} {bd : ByteArray} (hd : diskOk l = true) (hl : l.length < 30) (ho : ∀ f ∈ l, isOther (ix : Int) f.name = true) (h : snapOk (ix : Int) tm zs bd = true) :
    Does' l (snapActs l (ix : Int) tm zs bd).1 [⟨sname ix, (snapText (ix : Int) tm zs bd).1, (snapText (ix : Int) tm zs bd).1.size⟩] := by
  have hix : ix ≤ 1000000 := by have := (snapOk_iff.1 h).2.1; omega
  have ha := (diskOk_iff.1 hd).2.2
  have hsz := snapText_size (ix := (ix : Int)) (tm := tm) (zs := zs) (bd := bd)
  have h4 : 4 ≤ (snapText (ix : Int) tm zs bd).1.size := by rw [snapText_yes h]; show 4 ≤ (sealOf _).size; rw [sealOf_size]; omega
  obtain ⟨t, ht⟩ : ∃ t, (snapText (ix : Int) tm zs bd).1 = t := ⟨_, rfl⟩
  rw [snapActs_yes h hd ht]
  rw [ht] at hsz h4 ⊢
  have hnew : ∀ f ∈ l, f.name ≠ sNew := fun f hf e => by have := ho f hf; rw [e, new_not_other new_new] at this; cases this
  have hn := found_no hnew
  have hna : newA l = [] := by
    rw [newA, if_neg]
    rw [List.any_eq_true]
    rintro ⟨f, hf, q⟩
    have := ho f hf
    rw [new_not_other q] at this
    cases this
  have hc : chunks t.size - 1 + 1 = chunks t.size := by unfold chunks; omega
  have c1 := does_chunks hd hn hl hsz (chunks t.size - 1) (by omega)
  rw [hc, Nat.min_eq_right (chunks_ge (Nat.le_refl _)), extract_whole] at c1
  have hd1 : diskOk (filesPut l ⟨sNew, t, 0⟩) = true := put_right hd (by simp only [fileOk, sNew_ok, within, Bool.true_and, Bool.and_eq_true, decide_eq_true_eq]; omega) (by rw [put_new_length hn]; omega)
  have k1 := doAct_keep_found hd1 (found_put ha ⟨sNew, t, 0⟩)
  have hd2 := doAct_right k1
  have hp2 : filesPut (filesPut l ⟨sNew, t, 0⟩) ⟨sNew, t, t.size⟩ = filesPut l ⟨sNew, t, t.size⟩ := put_put ha rfl
  have k1' : doAct (filesPut l ⟨sNew, t, 0⟩) keepA = some (filesPut l ⟨sNew, t, t.size⟩) := by rw [← hp2]; exact k1
  rw [show (filesPut (filesPut l ⟨sNew, t, 0⟩) ⟨sNew, (⟨sNew, t, 0⟩ : FileD).text, (⟨sNew, t, 0⟩ : FileD).text.size⟩) = filesPut l ⟨sNew, t, t.size⟩ from hp2] at hd2
  have k2 := doAct_move_found (to := sname ix) hd2 (found_put ha ⟨sNew, t, t.size⟩)
  have hne : ((sname ix).toList == sNew.toList) = false := by rw [beq_eq_false_iff_ne]; exact fun e => sname_ne_new hix (text_eq e)
  rw [if_neg (by simp [hne, sname_ok (show 0 ≤ (ix : Int) ∧ (ix : Int) ≤ 1000000 by omega)])] at k2
  have hd3 := doAct_right k2
  have hp3 : filesPut (filesNot (filesPut l ⟨sNew, t, t.size⟩) sNew) ⟨sname ix, t, t.size⟩ = filesPut l ⟨sname ix, t, t.size⟩ := by
    rw [show filesNot (filesPut l ⟨sNew, t, t.size⟩) sNew = filesNot l sNew from not_put ha ⟨sNew, t, t.size⟩, not_all hnew]
  have k2' : doAct (filesPut l ⟨sNew, t, t.size⟩) (moveA (sname ix)) = some (filesPut l ⟨sname ix, t, t.size⟩) := by rw [← hp3]; exact k2
  have hd3' := doAct_right k2'
  rw [hna, List.nil_append]
  exact does_app (does_app c1 (does_cons k1' (does_cons k2' (does_nil _)))) (does_drops (g := ⟨sname ix, t, t.size⟩) (sname_same hix) hd3' ha ho)
theorem newest_alone {ix : Nat} {tm : Int} {zs : List Int} {bd : ByteArray} (h : snapOk (ix : Int) tm zs bd = true) : newestSnap [⟨sname ix, (snapText (ix : Int) tm zs bd).1, (snapText (ix : Int) tm zs bd).1.size⟩] = some ⟨ix, tm.toNat, zs, bd⟩ := by
  have hix : ix ≤ 1000000 := by have := (snapOk_iff.1 h).2.1; omega
  have hsz := snapText_size (ix := (ix : Int)) (tm := tm) (zs := zs) (bd := bd)
  have hb := snap_back h
  obtain ⟨t, ht⟩ : ∃ t, (snapText (ix : Int) tm zs bd).1 = t := ⟨_, rfl⟩
  rw [ht] at hsz hb ⊢
  have hok : diskOk [⟨sname ix, t, t.size⟩] = true := diskOk_iff.2 ⟨by simp, fun f hf => by
    rw [List.mem_singleton] at hf
    rw [hf]
    simp only [fileOk, sname_ok (show 0 ≤ (ix : Int) ∧ (ix : Int) ≤ 1000000 by omega), within, Bool.true_and, Bool.and_eq_true, decide_eq_true_eq]
    omega, by simp [Asc]⟩
  rw [newestSnap, if_pos hok]
  show newer none _ = _
  refine newer_first ?_
  rw [fileSnap_eq (sname_num hix) hb, Int.toNat_natCast, if_pos rfl]
theorem shed_alone {ix : Nat} {tm : Int} {zs : List Int} {bd : ByteArray} (h : snapOk (ix : Int) tm zs bd = true) : shedActs [⟨sname ix, (snapText (ix : Int) tm zs bd).1, (snapText (ix : Int) tm zs bd).1.size⟩] = [] := by
  have hix : ix ≤ 1000000 := by have := (snapOk_iff.1 h).2.1; omega
  rw [shedActs, newest_alone h]
  show newA _ ++ dropsOf _ _ = []
  simp [newA, dropsOf, sname_not_new hix, sname_same hix]
end Go.Proofs.YtoanhjjigbjecaaGreatDoor

namespace Go.Proofs.YtoanhjjigbjecaaGreatDoor
open Go.RowKit

theorem actsSn {w : World} {base : Nat} {va : Option Addr} {vc : Nat} {l : List ActD} (h : w.ownsRow base 74 4 (.slice va l.length vc) l.length (actCells l)) : ActsAt w va l := by
  obtain ⟨_, (⟨he, h1⟩ | ⟨g, cap, cur, he, _, hg, _, _, _, ht⟩)⟩ := h
  · exact fun h0 => absurd (List.length_eq_zero_iff.1 h1) h0
  · cases he
    have hcur : cur.toList = actCells l ++ cur.toList.drop (l.length * 4) := by rw [← ht, List.take_append_drop]
    have hk : BlockIs w g 74 (actCells l ++ cur.toList.drop (l.length * 4)) := by
      unfold BlockIs
      rw [hg, ← hcur]
    exact actsAt_of hk
theorem sacts_small {l : List FileD} {ix tm : Int} {zs : List Int} {bd : ByteArray} (hd : diskOk l = true) : ActsSmall (snapActs l ix tm zs bd).1 := by
  have hsz := snapText_size (ix := ix) (tm := tm) (zs := zs) (bd := bd)
  have hnew : sNew.size ≤ 1048576 := by decide
  have he : (⟨#[]⟩ : ByteArray).size ≤ 1048576 := by decide
  have hix : (sname ix).size ≤ 1048576 := by
    cases hw : within ix 0 1000000 with
    | false => rw [sname_no hw]; exact he
    | true =>
      have h1 := dec_small7 (within_iff.1 hw)
      rw [sname_yes hw, ByteArray.size_append]
      have : (⟨#[115]⟩ : ByteArray).size = 1 := rfl
      omega
  unfold snapActs
  split
  · intro a ha
    simp only [List.mem_append] at ha
    rcases ha with ((ha | ha) | ha) | ha
    · unfold newA at ha
      split at ha
      · rw [List.mem_singleton.1 ha]; exact ⟨hnew, he, he⟩
      · cases ha
    · obtain ⟨j, _, rfl⟩ := List.mem_map.1 ha
      exact ⟨hnew, by show (chunkAt _ j).size ≤ _; rw [chunkAt, ByteArray.size_extract]; omega, he⟩
    · rcases List.mem_cons.1 ha with rfl | ha
      · exact ⟨hnew, he, he⟩
      · rw [List.mem_singleton.1 ha]; exact ⟨hnew, he, hix⟩
    · obtain ⟨f, hf, rfl⟩ := List.mem_map.1 ha
      have hm := (List.mem_filter.1 hf).1
      have := (diskOk_iff.1 hd).2.1 f hm
      simp only [fileOk, nameOk, within, Bool.and_eq_true, decide_eq_true_eq] at this
      exact ⟨by show f.name.size ≤ _; omega, he, he⟩
  · intro a ha
    cases ha
theorem disk_sizes {l : List FileD} (hd : diskOk l = true) : (∀ f ∈ l, f.text.size ≤ 1048576) ∧ (∀ f ∈ l, f.name.size ≤ 1048576) ∧ l.length ≤ 1048576 := by
  obtain ⟨h1, h2, _⟩ := diskOk_iff.1 hd
  refine ⟨fun f hf => ?_, fun f hf => ?_, by omega⟩
  · have := h2 f hf
    simp only [fileOk, nameOk, within, Bool.and_eq_true, decide_eq_true_eq] at this
    omega
  · have := h2 f hf
    simp only [fileOk, nameOk, within, Bool.and_eq_true, decide_eq_true_eq] at this
    omega
/-- all that the law asks of what was drawn -/
theorem snaps_told {l : List FileD} {ix : Nat} {tm : Int} {zs : List Int} {bd : ByteArray} (hd : diskOk l = true) (hl : l.length ≤ 3) (ho : ∀ f ∈ l, isOther (ix : Int) f.name = true) (h : snapOk (ix : Int) tm zs bd = true) :
    ∃ (tn : Nat) (t : ByteArray) (A : List ActD) (L : List FileD), tm = (tn : Int) ∧ snapText (ix : Int) tm zs bd = (t, true) ∧ t.size ≤ 20000 ∧ readSnap t = some ⟨ix, tn, zs, bd⟩ ∧ snapActs l (ix : Int) tm zs bd = (A, true) ∧ ActsSmall A ∧ A.length ≤ 20040 ∧ doAll l A = (L, A.length) ∧ newestSnap L = some ⟨ix, tn, zs, bd⟩ ∧ shedActs L = [] ∧ (∀ f ∈ L, f.text.size ≤ 1048576) ∧ (∀ f ∈ L, f.name.size ≤ 1048576) ∧ L.length ≤ 1048576 ∧ zs.length ≤ 4 ∧ bd.size ≤ 20000 ∧ (sname (ix : Int)).toList ≠ [] := by
  have h0 := snapOk_iff.1 h
  obtain ⟨tn, rfl⟩ : ∃ n : Nat, tm = n := ⟨tm.toNat, by omega⟩
  have hb := snap_back h
  rw [Int.toNat_natCast, Int.toNat_natCast] at hb
  have hn := newest_alone h
  rw [Int.toNat_natCast] at hn
  have hdo := snaps_done hd (by omega) ho h
  have hok := disk_sizes (newest_disk hn)
  refine ⟨tn, (snapText (ix : Int) tn zs bd).1, (snapActs l (ix : Int) tn zs bd).1, _, rfl, by rw [snapText_yes h], snapText_size, hb, by rw [snapActs_yes h hd rfl], sacts_small hd, snapActs_few, does_all hdo, hn, shed_alone h, hok.1, hok.2.1, hok.2.2, (confOk_len h0.1).2, ?_, ?_⟩
  · have h3 := h0.2.2
    rw [snapIn_size, shortT_size bd] at h3
    omega
  · rw [ByteArray.toList_eq, sname_list (by omega)]
    simp
end Go.Proofs.YtoanhjjigbjecaaGreatDoor
