/-
  What each kind of act leaves of a right disk.
-/
import Derived.Test.YthkfgiilbkjojaaPlainAct
namespace Go.Proofs.Ythkfgiilbkjojaa
open Go.RowKit

theorem found_right {l : List FileD} {s : ByteArray} {f : FileD} (hd : diskOk l = true) (hf : foundOf l s = some f) : nameOk s = true ∧ f.text.size ≤ 20000 ∧ 0 ≤ f.kept ∧ f.kept ≤ f.text.size := by
  obtain ⟨hm, hn⟩ := found_mem hf
  have := (diskOk_iff.1 hd).2.1 f hm
  simp only [fileOk, Bool.and_eq_true, decide_eq_true_eq, within] at this
  exact ⟨by rw [← hn]; exact this.1.1, this.1.2, this.2.1, this.2.2⟩
theorem put_right {l : List FileD} {f : FileD} (hd : diskOk l = true) (hf : fileOk f = true) (hl : (filesPut l f).length ≤ 30) : diskOk (filesPut l f) = true := by
  obtain ⟨_, h2, h3⟩ := diskOk_iff.1 hd
  refine diskOk_iff.2 ⟨hl, fun g hg => ?_, asc_put h3 f⟩
  rcases mem_put.1 hg with rfl | ⟨h, _⟩
  · exact hf
  · exact h2 g h
theorem not_right {l : List FileD} {x : ByteArray} (hd : diskOk l = true) : diskOk (filesNot l x) = true := by
  obtain ⟨h1, h2, h3⟩ := diskOk_iff.1 hd
  exact diskOk_iff.2 ⟨Nat.le_trans (List.length_filter_le _ _) h1, fun g hg => h2 g (mem_not.1 hg).1, asc_not h3 x⟩
theorem put_same_length {l : List FileD} {f g : FileD} (hd : diskOk l = true) (hf : foundOf l f.name = some g) : (filesPut l f).length = l.length := by
  obtain ⟨hm, hn⟩ := found_mem hf
  rw [put_length, not_length (diskOk_iff.1 hd).2.2 ⟨g, hm, hn⟩]
theorem put_new_length {l : List FileD} {f : FileD} (hf : foundOf l f.name = none) : (filesPut l f).length = l.length + 1 := by
  rw [put_length, not_all (found_not hf)]
theorem put_wrong {l : List FileD} {f : FileD} (h : fileOk f = false) : diskOk (filesPut l f) = false := by
  cases hd : diskOk (filesPut l f) with
  | false => rfl
  | true => rw [(diskOk_iff.1 hd).2.1 f (mem_put.2 (Or.inl rfl))] at h; cases h

theorem blank_empty : blank ByteArray.empty = true := by rw [blank, ByteArray.toList_eq]; rfl
theorem actOk_of {l : List FileD} {a : ActD} (hd : diskOk l = true) (hn : nameOk a.name = true) (h3 : a.kind = 3 ∨ a.to = ByteArray.empty) (h1 : a.kind = 1 ∨ a.text = ByteArray.empty) : actOk l a = true := by
  unfold actOk
  rw [hd, hn]
  simp only [Bool.true_and, Bool.and_eq_true, Bool.or_eq_true, beq_iff_eq]
  exact ⟨h3.imp id fun e => by rw [e]; exact blank_empty, h1.imp id fun e => by rw [e]; exact blank_empty⟩
theorem size_add (s t : ByteArray) : (s ++ t).size = s.size + t.size := by simp

theorem doAct_add_found {l : List FileD} {name text : ByteArray} {f : FileD} (hd : diskOk l = true) (hf : foundOf l name = some f) :
    doAct l ⟨1, name, text, ByteArray.empty⟩ = if f.text.size + text.size ≤ 20000 then some (filesPut l ⟨name, f.text ++ text, f.kept⟩) else none := by
  obtain ⟨r1, r2, r3, r4⟩ := found_right hd hf
  rw [doAct, if_pos (actOk_of hd r1 (Or.inr rfl) (Or.inl rfl)), doTry, if_pos rfl]
  dsimp only
  rw [hf]
  dsimp only [Option.getD]
  by_cases h : f.text.size + text.size ≤ 20000
  · rw [if_pos h, if_pos (put_right hd (by simp only [fileOk, r1, within, size_add, Bool.true_and, Bool.and_eq_true, decide_eq_true_eq]; omega) (by rw [put_same_length hd hf]; exact (diskOk_iff.1 hd).1))]
  · rw [if_neg h, if_neg (by rw [put_wrong (by simp [fileOk, h])]; simp)]
theorem doAct_add_new {l : List FileD} {name text : ByteArray} (hd : diskOk l = true) (hf : foundOf l name = none) :
    doAct l ⟨1, name, text, ByteArray.empty⟩ = if nameOk name = true ∧ l.length < 30 ∧ text.size ≤ 20000 then some (filesPut l ⟨name, ByteArray.empty ++ text, 0⟩) else none := by
  by_cases hn : nameOk name = true
  · rw [doAct, if_pos (actOk_of hd hn (Or.inr rfl) (Or.inl rfl)), doTry, if_pos rfl]
    dsimp only
    rw [hf]
    dsimp only [Option.getD]
    have hlen := put_new_length (f := ⟨name, ByteArray.empty ++ text, 0⟩) hf
    by_cases h : l.length < 30 ∧ text.size ≤ 20000
    · have hsz : (ByteArray.empty ++ text).size = text.size := by rw [size_add]; simp
      rw [if_pos (put_right hd (by simp only [fileOk, hn, within, hsz, Bool.true_and, Bool.and_eq_true, decide_eq_true_eq]; omega) (by rw [hlen]; omega)), if_pos ⟨hn, h⟩]
    · rw [if_neg, if_neg (fun q => h q.2)]
      intro hq
      obtain ⟨q1, q2, _⟩ := diskOk_iff.1 hq
      have q3 := q2 _ (mem_put.2 (Or.inl rfl))
      have hsz : (ByteArray.empty ++ text).size = text.size := by rw [size_add]; simp
      simp only [fileOk, Bool.and_eq_true, decide_eq_true_eq, hsz] at q3
      exact h ⟨by omega, q3.1.2⟩
  · rw [if_neg (fun q => hn q.1), doAct, if_neg]
    intro q
    simp only [actOk, Bool.and_eq_true] at q
    exact hn q.1.1.2
theorem doAct_keep_found {l : List FileD} {name : ByteArray} {f : FileD} (hd : diskOk l = true) (hf : foundOf l name = some f) :
    doAct l ⟨2, name, ByteArray.empty, ByteArray.empty⟩ = some (filesPut l ⟨name, f.text, f.text.size⟩) := by
  obtain ⟨r1, r2, r3, r4⟩ := found_right hd hf
  have hfn := (found_mem hf).2
  rw [doAct, if_pos (actOk_of hd r1 (Or.inr rfl) (Or.inr rfl)), doTry, if_neg (by simp)]
  dsimp only
  rw [hf]
  dsimp only
  rw [if_pos rfl, hfn]
  dsimp only
  rw [if_pos (put_right hd (by simp only [fileOk, r1, within, Bool.true_and, Bool.and_eq_true, decide_eq_true_eq]; omega) (by rw [put_same_length hd hf]; exact (diskOk_iff.1 hd).1))]
theorem doAct_drop_found {l : List FileD} {name : ByteArray} {f : FileD} (hd : diskOk l = true) (hf : foundOf l name = some f) :
    doAct l ⟨4, name, ByteArray.empty, ByteArray.empty⟩ = some (filesNot l name) := by
  obtain ⟨r1, _⟩ := found_right hd hf
  rw [doAct, if_pos (actOk_of hd r1 (Or.inr rfl) (Or.inr rfl)), doTry, if_neg (by simp)]
  dsimp only
  rw [hf]
  dsimp only
  rw [if_neg (by simp), if_neg (by simp), if_pos rfl]
  dsimp only
  rw [if_pos (not_right hd)]
theorem doAct_move_found {l : List FileD} {name to : ByteArray} {f : FileD} (hd : diskOk l = true) (hf : foundOf l name = some f) :
    doAct l ⟨3, name, ByteArray.empty, to⟩ = if (decide (f.kept < f.text.size) || to.toList == name.toList || !nameOk to) = true then none else some (filesPut (filesNot l name) ⟨to, f.text, f.kept⟩) := by
  obtain ⟨r1, r2, r3, r4⟩ := found_right hd hf
  obtain ⟨hm, hfn⟩ := found_mem hf
  rw [doAct, if_pos (actOk_of hd r1 (Or.inl rfl) (Or.inr rfl)), doTry, if_neg (by simp)]
  dsimp only
  rw [hf]
  dsimp only
  rw [if_neg (by simp), if_pos rfl]
  by_cases h : (decide (f.kept < f.text.size) || to.toList == name.toList || !nameOk to) = true
  · rw [if_pos h]
  · rw [if_neg h]
    dsimp only
    have hto : nameOk to = true := by
      cases q : nameOk to with
      | true => rfl
      | false => rw [q] at h; simp at h
    have hlen := not_length (diskOk_iff.1 hd).2.2 ⟨f, hm, hfn⟩
    have hps : (filesPut (filesNot l name) ⟨to, f.text, f.kept⟩).length ≤ 30 := by
      rw [put_length]
      have : (filesNot (filesNot l name) to).length ≤ (filesNot l name).length := List.length_filter_le _ _
      have := (diskOk_iff.1 hd).1
      show (filesNot (filesNot l name) to).length + 1 ≤ 30
      omega
    rw [if_pos (put_right (not_right hd) (by simp only [fileOk, hto, within, Bool.true_and, Bool.and_eq_true, decide_eq_true_eq]; omega) hps)]
theorem doAct_none {l : List FileD} {a : ActD} (hk : a.kind ≠ 1) (hf : foundOf l a.name = none) : doAct l a = none := by
  rw [doAct, doTry, if_neg hk, hf]
  split <;> rfl
theorem doAct_other {l : List FileD} {a : ActD} (h1 : a.kind ≠ 1) (h2 : a.kind ≠ 2) (h3 : a.kind ≠ 3) (h4 : a.kind ≠ 4) : doAct l a = none := by
  cases hf : foundOf l a.name with
  | none => exact doAct_none h1 hf
  | some f =>
    rw [doAct, doTry, if_neg h1, hf]
    dsimp only
    rw [if_neg h2, if_neg h3, if_neg h4]
    split <;> rfl
theorem doAct_bad {l : List FileD} {a : ActD} (h : (a.kind ≠ 1 ∧ blank a.text = false) ∨ (a.kind ≠ 3 ∧ blank a.to = false)) : doAct l a = none := by
  rw [doAct, if_neg]
  intro q
  simp only [actOk, Bool.and_eq_true, Bool.or_eq_true, beq_iff_eq] at q
  rcases h with ⟨h1, h2⟩ | ⟨h1, h2⟩
  · rcases q.2 with q | q
    · exact h1 q
    · rw [h2] at q; cases q
  · rcases q.1.2 with q | q
    · exact h1 q
    · rw [h2] at q; cases q
end Go.Proofs.Ythkfgiilbkjojaa
