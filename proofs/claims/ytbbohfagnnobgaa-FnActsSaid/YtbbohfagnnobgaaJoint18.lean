/-
  Acts on disks as plain data: when one is true, and what it leaves.
  Lists of acts acts data, in memory; what they leave, one by one.
  What acts leave, one by one, as one answer.
  What each kind of act leaves of a right disk.
  Acts done one by one: what each leaves under its name; nothing of the program stands here.
  An open disk: files behind pointers in a map of the call's own, by their names.
-/
import Derived.Test.YtbbohfagnnobgaaJoint15
import Derived.Test.YtbbohfagnnobgaaJoint16
import Derived.Test.YtbbohfagnnobgaaJoint17
import Derived.Test.YtbbohfagnnobgaaJoint1
import Derived.Sort.Walk0
import Derived.Maps.OwnSet
import Derived.Maps.OwnOps
import Derived.Sort.KeysCollected
namespace Go.Proofs.Ytbbohfagnnobgaa
open Go.RowKit

theorem textLt_eq (s t : ByteArray) : textLt s t = decide (s.toList < t.toList) := bytesLess_eq _ _
theorem textLt_iff {s t : ByteArray} : textLt s t = true ↔ s.toList < t.toList := by rw [textLt_eq]; simp
theorem lt_tri (a b : List UInt8) : a < b ∨ a = b ∨ b < a := by
  rcases Decidable.em (a < b) with h | h
  · exact Or.inl h
  · rcases Decidable.em (b < a) with h2 | h2
    · exact Or.inr (Or.inr h2)
    · exact Or.inr (Or.inl (List.le_antisymm (List.not_lt.1 h2) (List.not_lt.1 h)))

/-- names ascend -/
def Asc (l : List FileD) : Prop := l.Pairwise fun f g => f.name.toList < g.name.toList
theorem rightTo_iff {l : List FileD} : ∀ k, k ≤ l.length → (rightTo l k = true ↔ ∀ j (hj : j < l.length), j < k → fileOk l[j] = true ∧ behind l j l[j] = true)
  | 0, _ => by simp [rightTo]
  | k + 1, hk => by
    rw [rightTo_step (show k < l.length by omega), Bool.and_eq_true, Bool.and_eq_true, rightTo_iff k (by omega)]
    constructor
    · rintro ⟨h, h2⟩ j hj hjk
      rcases Nat.lt_or_ge j k with q | q
      · exact h j hj q
      · obtain rfl : j = k := by omega
        exact h2
    · exact fun h => ⟨fun j hj hjk => h j hj (by omega), h k (by omega) (by omega)⟩
theorem diskOk_iff {l : List FileD} : diskOk l = true ↔ l.length ≤ 30 ∧ (∀ f ∈ l, fileOk f = true) ∧ Asc l := by
  rw [diskOk, Bool.and_eq_true, rightTo_iff l.length (Nat.le_refl _), decide_eq_true_eq]
  refine and_congr_right fun _ => ⟨fun h => ⟨fun f hf => ?_, ?_⟩, fun ⟨h1, h2⟩ j hj _ => ⟨h1 _ (List.getElem_mem hj), ?_⟩⟩
  · obtain ⟨j, hj, rfl⟩ := List.getElem_of_mem hf
    exact (h j hj hj).1
  · rw [Asc, List.pairwise_iff_getElem]
    intro i j hi hj hij
    induction j with
    | zero => omega
    | succ j ih =>
      have hb := (h (j + 1) hj hj).2
      rw [behind_step hj, textLt_iff] at hb
      rcases Nat.lt_or_ge i j with q | q
      · exact List.lt_trans (ih (by omega) q) hb
      · obtain rfl : i = j := by omega
        exact hb
  · cases j with
    | zero => rfl
    | succ j =>
      rw [behind_step hj, textLt_iff]
      exact (List.pairwise_iff_getElem.1 h2) j (j + 1) (by omega) hj (by omega)

theorem name_ne {f g : FileD} : f.name ≠ g.name ↔ (f.name.toList < g.name.toList ∨ g.name.toList < f.name.toList) := by
  constructor
  · intro h
    rcases lt_tri f.name.toList g.name.toList with q | q | q
    · exact Or.inl q
    · exact absurd (text_eq q) h
    · exact Or.inr q
  · rintro (h | h) e
    · rw [e] at h; exact List.lt_irrefl _ h
    · rw [e] at h; exact List.lt_irrefl _ h
theorem mem_put {l : List FileD} {f g : FileD} : g ∈ filesPut l f ↔ g = f ∨ (g ∈ l ∧ g.name ≠ f.name) := by
  rw [name_ne]
  simp only [filesPut, lessAnd, filesLess, List.mem_append, List.mem_filter, isLess, isMore, textLt_iff, List.mem_singleton]
  constructor
  · rintro ((h | h) | h)
    · exact Or.inr ⟨h.1, Or.inl h.2⟩
    · exact Or.inl h
    · exact Or.inr ⟨h.1, Or.inr h.2⟩
  · rintro (h | ⟨h, (q | q)⟩)
    · exact Or.inl (Or.inr h)
    · exact Or.inl (Or.inl ⟨h, q⟩)
    · exact Or.inr ⟨h, q⟩
theorem mem_not {l : List FileD} {x : ByteArray} {g : FileD} : g ∈ filesNot l x ↔ g ∈ l ∧ g.name ≠ x := by
  simp only [filesNot, List.mem_filter, Bool.not_eq_true', beq_eq_false_iff_ne]
  exact and_congr_right fun _ => ⟨fun h e => h (by rw [e]), fun h e => h (text_eq e)⟩
theorem asc_put {l : List FileD} (h : Asc l) (f : FileD) : Asc (filesPut l f) := by
  unfold Asc filesPut lessAnd filesLess
  rw [List.pairwise_append, List.pairwise_append]
  refine ⟨⟨h.filter _, by simp, ?_⟩, h.filter _, ?_⟩
  · intro a ha b hb
    rw [List.mem_singleton] at hb
    rw [hb]
    exact textLt_iff.1 (List.mem_filter.1 ha).2
  · intro a ha b hb
    have hb2 := textLt_iff.1 (List.mem_filter.1 hb).2
    rw [List.mem_append, List.mem_singleton] at ha
    rcases ha with ha | rfl
    · exact List.lt_trans (textLt_iff.1 (List.mem_filter.1 ha).2) hb2
    · exact hb2
theorem asc_not {l : List FileD} (h : Asc l) (x : ByteArray) : Asc (filesNot l x) := h.filter _
theorem put_length (l : List FileD) (f : FileD) : (filesPut l f).length = (filesNot l f.name).length + 1 := by
  simp only [filesPut, lessAnd, filesLess, List.length_append, List.length_singleton, filesNot]
  suffices hs : (l.filter (isLess f)).length + (l.filter (isMore f)).length = (l.filter fun g => !(g.name.toList == f.name.toList)).length by omega
  induction l with
  | nil => rfl
  | cons g l ih =>
    rcases lt_tri g.name.toList f.name.toList with q | q | q
    · have a1 : isLess f g = true := textLt_iff.2 q
      have a2 : ¬ isMore f g = true := fun h => List.lt_irrefl _ (List.lt_trans q (textLt_iff.1 h))
      have a3 : (!(g.name.toList == f.name.toList)) = true := by
        rw [Bool.not_eq_true', beq_eq_false_iff_ne]; intro e; rw [e] at q; exact List.lt_irrefl _ q
      rw [List.filter_cons_of_pos a1, List.filter_cons_of_neg a2, List.filter_cons_of_pos (p := fun g : FileD => !(g.name.toList == f.name.toList)) a3, List.length_cons, List.length_cons]
      omega
    · have a1 : ¬ isLess f g = true := fun h => by have := textLt_iff.1 h; rw [q] at this; exact List.lt_irrefl _ this
      have a2 : ¬ isMore f g = true := fun h => by have := textLt_iff.1 h; rw [q] at this; exact List.lt_irrefl _ this
      have a3 : ¬ (!(g.name.toList == f.name.toList)) = true := by rw [q]; simp
      rw [List.filter_cons_of_neg a1, List.filter_cons_of_neg a2, List.filter_cons_of_neg (p := fun g : FileD => !(g.name.toList == f.name.toList)) a3]
      exact ih
    · have a1 : isMore f g = true := textLt_iff.2 q
      have a2 : ¬ isLess f g = true := fun h => List.lt_irrefl _ (List.lt_trans q (textLt_iff.1 h))
      have a3 : (!(g.name.toList == f.name.toList)) = true := by
        rw [Bool.not_eq_true', beq_eq_false_iff_ne]; intro e; rw [e] at q; exact List.lt_irrefl _ q
      rw [List.filter_cons_of_pos a1, List.filter_cons_of_neg a2, List.filter_cons_of_pos (p := fun g : FileD => !(g.name.toList == f.name.toList)) a3, List.length_cons, List.length_cons]
      omega
theorem not_all {l : List FileD} {x : ByteArray} (h : ∀ f ∈ l, f.name ≠ x) : filesNot l x = l := by
  rw [filesNot, List.filter_eq_self]
  intro f hf
  rw [Bool.not_eq_true', beq_eq_false_iff_ne]
  exact fun e => h f hf (text_eq e)
theorem not_length {l : List FileD} {x : ByteArray} (h : Asc l) (hx : ∃ f ∈ l, f.name = x) : (filesNot l x).length + 1 = l.length := by
  induction l with
  | nil => obtain ⟨f, hf, _⟩ := hx; cases hf
  | cons g l ih =>
    rw [Asc, List.pairwise_cons] at h
    by_cases e : g.name = x
    · have : filesNot (g :: l) x = l := by
        have h2 : filesNot l x = l := not_all fun f hf ef => by have := h.1 f hf; rw [e, ef] at this; exact List.lt_irrefl _ this
        unfold filesNot at h2 ⊢
        rw [List.filter_cons, e]
        simpa using h2
      rw [this]
      rfl
    · obtain ⟨f, hf, rfl⟩ := hx
      rcases List.mem_cons.1 hf with q | q
      · subst q; exact absurd rfl e
      · have h3 : (g.name.toList == f.name.toList) = false := by rw [beq_eq_false_iff_ne]; exact fun q => e (text_eq q)
        have := ih h.2 ⟨f, q, rfl⟩
        unfold filesNot at this ⊢
        rw [List.filter_cons, h3]
        simp only [Bool.not_false, if_true, List.length_cons]
        omega

/-- the first file of a name -/
def foundOf (l : List FileD) (s : ByteArray) : Option FileD := l.find? fun f => f.name.toList == s.toList
theorem found_none {l : List FileD} {s : ByteArray} (h : NoneAt l s) : foundOf l s = none := by
  rw [foundOf, List.find?_eq_none]
  intro f hf
  obtain ⟨j, hj, rfl⟩ := List.getElem_of_mem hf
  simp only [beq_iff_eq]
  exact fun e => h j hj (text_eq e)
theorem found_some {l : List FileD} {s : ByteArray} {k : Nat} (h : FirstAt l s k) : foundOf l s = some (l[k]'h.1) := by
  obtain ⟨hk, he, hn⟩ := h
  rw [foundOf, List.find?_eq_some_iff_getElem]
  refine ⟨by rw [he]; simp, k, hk, rfl, fun j hj => ?_⟩
  rw [Bool.not_eq_true', beq_eq_false_iff_ne]
  exact fun e => hn j hj (text_eq e)
theorem found_mem {l : List FileD} {s : ByteArray} {f : FileD} (h : foundOf l s = some f) : f ∈ l ∧ f.name = s := by
  rw [foundOf] at h
  refine ⟨List.mem_of_find?_eq_some h, ?_⟩
  have := List.find?_some h
  exact text_eq (by simpa using this)
theorem found_not {l : List FileD} {s : ByteArray} (h : foundOf l s = none) : ∀ f ∈ l, f.name ≠ s := by
  rw [foundOf, List.find?_eq_none] at h
  intro f hf e
  have := h f hf
  rw [e] at this
  simp at this

/-- no letter -/
def blank (s : ByteArray) : Bool := s.toList == []
def actOk (l : List FileD) (a : ActD) : Bool := diskOk l && nameOk a.name && (a.kind == 3 || blank a.to) && (a.kind == 1 || blank a.text)
/-- what an act would leave -/
def doTry (l : List FileD) (a : ActD) : Option (List FileD) :=
  if a.kind = 1 then some (filesPut l ⟨a.name, ((foundOf l a.name).getD ⟨a.name, ByteArray.empty, 0⟩).text ++ a.text, ((foundOf l a.name).getD ⟨a.name, ByteArray.empty, 0⟩).kept⟩)
  else match foundOf l a.name with
    | none => none
    | some f => if a.kind = 2 then some (filesPut l ⟨f.name, f.text, f.text.size⟩)
      else if a.kind = 3 then (if (decide (f.kept < f.text.size) || a.to.toList == a.name.toList || !nameOk a.to) = true then none else some (filesPut (filesNot l a.name) ⟨a.to, f.text, f.kept⟩))
      else if a.kind = 4 then some (filesNot l a.name) else none
def doAct (l : List FileD) (a : ActD) : Option (List FileD) :=
  if actOk l a = true then (match doTry l a with
    | none => none
    | some o => if diskOk o = true then some o else none) else none
theorem doAct_right {l o : List FileD} {a : ActD} (h : doAct l a = some o) : diskOk o = true := by
  unfold doAct at h
  split at h
  · split at h
    · cases h
    · split at h
      · cases h; assumption
      · cases h
  · cases h
def doAns (l : List FileD) (a : ActD) : List FileD × Bool := match doAct l a with
  | none => ([], false)
  | some o => (o, true)
end Go.Proofs.Ytbbohfagnnobgaa

namespace Go.Proofs.Ytbbohfagnnobgaa
open Go.RowKit

/-- acts lie at an address, one behind the other -/
def ActsAt (w : World) (ao : Option Addr) (acts : List ActD) : Prop :=
  acts ≠ [] → ∃ b off, ao = some ⟨b, off, none⟩ ∧ ∀ j (hj : j < acts.length), w.cell? ⟨b, off + j * 4, none⟩ = some (.int .i64 acts[j].kind) ∧ w.cell? ⟨b, off + j * 4 + 1, none⟩ = some (.string acts[j].name) ∧ w.cell? ⟨b, off + j * 4 + 2, none⟩ = some (.string acts[j].text) ∧ w.cell? ⟨b, off + j * 4 + 3, none⟩ = some (.string acts[j].to)
theorem ActsAt.on {w w' : World} {ao : Option Addr} {acts : List ActD} (h : ActsAt w ao acts) (hb : Below w.heap.size w w') : ActsAt w' ao acts := by
  intro h0
  obtain ⟨b, off, e1, e2⟩ := h h0
  refine ⟨b, off, e1, fun j hj => ?_⟩
  obtain ⟨x, y, z, u⟩ := e2 j hj
  exact ⟨(hb.cell (p := ⟨b, off + j * 4, none⟩) (World.block_lt_of_cell? w _ x)).trans x, (hb.cell (p := ⟨b, off + j * 4 + 1, none⟩) (World.block_lt_of_cell? w _ y)).trans y, (hb.cell (p := ⟨b, off + j * 4 + 2, none⟩) (World.block_lt_of_cell? w _ z)).trans z, (hb.cell (p := ⟨b, off + j * 4 + 3, none⟩) (World.block_lt_of_cell? w _ u)).trans u⟩
def ActsSmall (acts : List ActD) : Prop := ∀ a ∈ acts, a.name.size ≤ 1048576 ∧ a.text.size ≤ 1048576 ∧ a.to.size ≤ 1048576
/-- what the first k acts leave, if all are true -/
def doTo (l : List FileD) (acts : List ActD) : Nat → Option (List FileD)
  | 0 => some l
  | k + 1 => (doTo l acts k).bind fun o => match acts[k]? with
    | none => none
    | some a => doAct o a
theorem doTo_step {l o : List FileD} {acts : List ActD} {k : Nat} (hk : k < acts.length) (h : doTo l acts k = some o) : doTo l acts (k + 1) = doAct o acts[k] := by
  rw [doTo, h, Option.bind_some, List.getElem?_eq_getElem hk]
theorem doTo_right {l o : List FileD} {acts : List ActD} (hd : diskOk l = true) : ∀ {k : Nat}, doTo l acts k = some o → diskOk o = true
  | 0, h => by cases h; exact hd
  | k + 1, h => by
    rw [doTo] at h
    obtain ⟨o', _, h2⟩ := Option.bind_eq_some_iff.1 h
    split at h2
    · cases h2
    · exact doAct_right h2
theorem doAct_wrong {l : List FileD} {a : ActD} (hd : diskOk l = false) : doAct l a = none := by
  rw [doAct, if_neg (by simp [actOk, hd])]
/-- what DoActs answers -/
def DidActs (w : World) (l : List FileD) (acts : List ActD) (OK : World → List FileD → Option Addr → Prop) (e : Ending) (w' : World) : Prop :=
  ∃ (i : Nat) (o : List FileD) (va : Option Addr) (vc : Nat), e = .returned (.tuple #[.agg #[.slice va o.length vc], .int .i64 i]) ∧ (doTo l acts i = some o ∧ i ≤ acts.length ∧ (i = acts.length ∨ doTo l acts (i + 1) = none)) ∧ OK w' o va ∧ Below w.heap.size w w'
end Go.Proofs.Ytbbohfagnnobgaa

namespace Go.Proofs.Ytbbohfagnnobgaa
open Go.RowKit

def doAll (l : List FileD) : List ActD → List FileD × Nat
  | [] => (l, 0)
  | a :: r => match doAct l a with
    | none => (l, 0)
    | some o => ((doAll o r).1, (doAll o r).2 + 1)
theorem doTo_cons (l : List FileD) (a : ActD) (r : List ActD) : ∀ k, doTo l (a :: r) (k + 1) = (doAct l a).bind fun o => doTo o r k
  | 0 => by
    rw [doTo, doTo, Option.bind_some]
    simp [doTo]
  | k + 1 => by
    rw [doTo, doTo_cons l a r k, Option.bind_assoc]
    rfl
theorem doAll_eq {acts : List ActD} : ∀ {l o : List FileD} {i : Nat}, doTo l acts i = some o → i ≤ acts.length → (i = acts.length ∨ doTo l acts (i + 1) = none) → doAll l acts = (o, i) := by
  induction acts with
  | nil =>
    intro l o i h hi _
    obtain rfl : i = 0 := by simpa using hi
    cases h
    rfl
  | cons a r ih =>
    intro l o i h hi hor
    cases i with
    | zero =>
      cases h
      have h1 : doTo l (a :: r) 1 = none := hor.resolve_left (by simp)
      rw [doTo_cons] at h1
      cases hd : doAct l a with
      | none => simp [doAll, hd]
      | some o' => rw [hd] at h1; simp [doTo] at h1
    | succ i =>
      rw [doTo_cons] at h
      cases hd : doAct l a with
      | none => rw [hd] at h; cases h
      | some o' =>
        rw [hd, Option.bind_some] at h
        have := ih h (by simpa using hi) (by
          rcases hor with q | q
          · exact Or.inl (by simpa using q)
          · rw [doTo_cons, hd, Option.bind_some] at q; exact Or.inr q)
        simp [doAll, hd, this]
theorem doTo_small {l o : List FileD} {acts : List ActD} (hl : l.length ≤ 1048576) : ∀ {k : Nat}, doTo l acts k = some o → o.length ≤ 1048576
  | 0, h => by cases h; exact hl
  | k + 1, h => by
    rw [doTo] at h
    obtain ⟨o', _, h2⟩ := Option.bind_eq_some_iff.1 h
    split at h2
    · cases h2
    · have := (diskOk_iff.1 (doAct_right h2)).1; omega
theorem doAll_small {l : List FileD} {acts : List ActD} (hl : l.length ≤ 1048576) : (doAll l acts).1.length ≤ 1048576 := by
  induction acts generalizing l with
  | nil => exact hl
  | cons a r ih =>
    rw [doAll]
    cases hd : doAct l a with
    | none => exact hl
    | some o => have := (diskOk_iff.1 (doAct_right hd)).1; exact ih (by omega)
end Go.Proofs.Ytbbohfagnnobgaa

namespace Go.Proofs.Ytbbohfagnnobgaa
open Go.RowKit

theorem found_right {l : List FileD} {s : ByteArray} {f : FileD} (hd : diskOk l = true) (hf : foundOf l s = some f) : nameOk s = true ∧ f.text.size ≤ 20000 ∧ 0 ≤ f.kept ∧ f.kept ≤ f.text.size := by
  obtain ⟨hm, hn⟩ := found_mem hf
  have := (diskOk_iff.1 hd).2.1 f hm
  simp only [fileOk, Bool.and_eq_true, decide_eq_true_eq, within] at this
  exact ⟨by rw [← hn]; exact this.1.1, this.1.2, this.2.1, this.2.2⟩
theorem put_right {l : List FileD} {f : FileD} (hd : diskOk l = true) (hf : fileOk f = true) (hl : (filesPut l f).length ≤ 30) : diskOk (filesPut l f) = true := by
  obtain ⟨_, h2, h3⟩ := diskOk_iff.1 hd
  refine diskOk_iff.2 ⟨hl, fun g hg => ?_, asc_put h3 f⟩
  rcases mem_put.1 hg with rfl | ⟨h, _⟩
  · exact hf
  · exact h2 g h
theorem not_right {l : List FileD} {x : ByteArray} (hd : diskOk l = true) : diskOk (filesNot l x) = true := by
  obtain ⟨h1, h2, h3⟩ := diskOk_iff.1 hd
  exact diskOk_iff.2 ⟨Nat.le_trans (List.length_filter_le _ _) h1, fun g hg => h2 g (mem_not.1 hg).1, asc_not h3 x⟩
theorem put_same_length {l : List FileD} {f g : FileD} (hd : diskOk l = true) (hf : foundOf l f.name = some g) : (filesPut l f).length = l.length := by
  obtain ⟨hm, hn⟩ := found_mem hf
  rw [put_length, not_length (diskOk_iff.1 hd).2.2 ⟨g, hm, hn⟩]
theorem put_new_length {l : List FileD} {f : FileD} (hf : foundOf l f.name = none) : (filesPut l f).length = l.length + 1 := by
  rw [put_length, not_all (found_not hf)]
theorem put_wrong {l : List FileD} {f : FileD} (h : fileOk f = false) : diskOk (filesPut l f) = false := by
  cases hd : diskOk (filesPut l f) with
  | false => rfl
  | true => rw [(diskOk_iff.1 hd).2.1 f (mem_put.2 (Or.inl rfl))] at h; cases h

theorem blank_empty : blank ByteArray.empty = true := by rw [blank, ByteArray.toList_eq]; rfl
theorem actOk_of {l : List FileD} {a : ActD} (hd : diskOk l = true) (hn : nameOk a.name = true) (h3 : a.kind = 3 ∨ a.to = ByteArray.empty) (h1 : a.kind = 1 ∨ a.text = ByteArray.empty) : actOk l a = true := by
  unfold actOk
  rw [hd, hn]
  simp only [Bool.true_and, Bool.and_eq_true, Bool.or_eq_true, beq_iff_eq]
  exact ⟨h3.imp id fun e => by rw [e]; exact blank_empty, h1.imp id fun e => by rw [e]; exact blank_empty⟩
theorem size_add (s t : ByteArray) : (s ++ t).size = s.size + t.size := by simp

theorem doAct_add_found {l : List FileD} {name text : ByteArray} {f : FileD} (hd : diskOk l = true) (hf : foundOf l name = some f) :
    doAct l ⟨1, name, text, ByteArray.empty⟩ = if f.text.size + text.size ≤ 20000 then some (filesPut l ⟨name, f.text ++ text, f.kept⟩) else none := by
  obtain ⟨r1, r2, r3, r4⟩ := found_right hd hf
  rw [doAct, if_pos (actOk_of hd r1 (Or.inr rfl) (Or.inl rfl)), doTry, if_pos rfl]
  dsimp only
  rw [hf]
  dsimp only [Option.getD]
  by_cases h : f.text.size + text.size ≤ 20000
  · rw [if_pos h, if_pos (put_right hd (by simp only [fileOk, r1, within, size_add, Bool.true_and, Bool.and_eq_true, decide_eq_true_eq]; omega) (by rw [put_same_length hd hf]; exact (diskOk_iff.1 hd).1))]
  · rw [if_neg h, if_neg (by rw [put_wrong (by simp [fileOk, h])]; simp)]
theorem doAct_add_new {l : List FileD} {name text : ByteArray} (hd : diskOk l = true) (hf : foundOf l name = none) :
    doAct l ⟨1, name, text, ByteArray.empty⟩ = if nameOk name = true ∧ l.length < 30 ∧ text.size ≤ 20000 then some (filesPut l ⟨name, ByteArray.empty ++ text, 0⟩) else none := by
  by_cases hn : nameOk name = true
  · rw [doAct, if_pos (actOk_of hd hn (Or.inr rfl) (Or.inl rfl)), doTry, if_pos rfl]
    dsimp only
    rw [hf]
    dsimp only [Option.getD]
    have hlen := put_new_length (f := ⟨name, ByteArray.empty ++ text, 0⟩) hf
    by_cases h : l.length < 30 ∧ text.size ≤ 20000
    · have hsz : (ByteArray.empty ++ text).size = text.size := by rw [size_add]; simp
      rw [if_pos (put_right hd (by simp only [fileOk, hn, within, hsz, Bool.true_and, Bool.and_eq_true, decide_eq_true_eq]; omega) (by rw [hlen]; omega)), if_pos ⟨hn, h⟩]
    · rw [if_neg, if_neg (fun q => h q.2)]
      intro hq
      obtain ⟨q1, q2, _⟩ := diskOk_iff.1 hq
      have q3 := q2 _ (mem_put.2 (Or.inl rfl))
      have hsz : (ByteArray.empty ++ text).size = text.size := by rw [size_add]; simp
      simp only [fileOk, Bool.and_eq_true, decide_eq_true_eq, hsz] at q3
      exact h ⟨by omega, q3.1.2⟩
  · rw [if_neg (fun q => hn q.1), doAct, if_neg]
    intro q
    simp only [actOk, Bool.and_eq_true] at q
    exact hn q.1.1.2
theorem doAct_keep_found {l : List FileD} {name : ByteArray} {f : FileD} (hd : diskOk l = true) (hf : foundOf l name = some f) :
    doAct l ⟨2, name, ByteArray.empty, ByteArray.empty⟩ = some (filesPut l ⟨name, f.text, f.text.size⟩) := by
  obtain ⟨r1, r2, r3, r4⟩ := found_right hd hf
  have hfn := (found_mem hf).2
  rw [doAct, if_pos (actOk_of hd r1 (Or.inr rfl) (Or.inr rfl)), doTry, if_neg (by simp)]
  dsimp only
  rw [hf]
  dsimp only
  rw [if_pos rfl, hfn]
  dsimp only
  rw [if_pos (put_right hd (by simp only [fileOk, r1, within, Bool.true_and, Bool.and_eq_true, decide_eq_true_eq]; omega) (by rw [put_same_length hd hf]; exact (diskOk_iff.1 hd).1))]
theorem doAct_drop_found {l : List FileD} {name : ByteArray} {f : FileD} (hd : diskOk l = true) (hf : foundOf l name = some f) :
    doAct l ⟨4, name, ByteArray.empty, ByteArray.empty⟩ = some (filesNot l name) := by
  obtain ⟨r1, _⟩ := found_right hd hf
  rw [doAct, if_pos (actOk_of hd r1 (Or.inr rfl) (Or.inr rfl)), doTry, if_neg (by simp)]
  dsimp only
  rw [hf]
  dsimp only
  rw [if_neg (by simp), if_neg (by simp), if_pos rfl]
  dsimp only
  rw [if_pos (not_right hd)]
theorem doAct_move_found {l : List FileD} {name to : ByteArray} {f : FileD} (hd : diskOk l = true) (hf : foundOf l name = some f) :
    doAct l ⟨3, name, ByteArray.empty, to⟩ = if (decide (f.kept < f.text.size) || to.toList == name.toList || !nameOk to) = true then none else some (filesPut (filesNot l name) ⟨to, f.text, f.kept⟩) := by
  obtain ⟨r1, r2, r3, r4⟩ := found_right hd hf
  obtain ⟨hm, hfn⟩ := found_mem hf
  rw [doAct, if_pos (actOk_of hd r1 (Or.inl rfl) (Or.inr rfl)), doTry, if_neg (by simp)]
  dsimp only
  rw [hf]
  dsimp only
  rw [if_neg (by simp), if_pos rfl]
  by_cases h : (decide (f.kept < f.text.size) || to.toList == name.toList || !nameOk to) = true
  · rw [if_pos h]
  · rw [if_neg h]
    dsimp only
    have hto : nameOk to = true := by
      cases q : nameOk to with
      | true => rfl
      | false => rw [q] at h; simp at h
    have hlen := not_length (diskOk_iff.1 hd).2.2 ⟨f, hm, hfn⟩
    have hps : (filesPut (filesNot l name) ⟨to, f.text, f.kept⟩).length ≤ 30 := by
      rw [put_length]
      have : (filesNot (filesNot l name) to).length ≤ (filesNot l name).length := List.length_filter_le _ _
      have := (diskOk_iff.1 hd).1
      show (filesNot (filesNot l name) to).length + 1 ≤ 30
      omega
    rw [if_pos (put_right (not_right hd) (by simp only [fileOk, hto, within, Bool.true_and, Bool.and_eq_true, decide_eq_true_eq]; omega) hps)]
theorem doAct_none {l : List FileD} {a : ActD} (hk : a.kind ≠ 1) (hf : foundOf l a.name = none) : doAct l a = none := by
  rw [doAct, doTry, if_neg hk, hf]
  split <;> rfl
theorem doAct_other {l : List FileD} {a : ActD} (h1 : a.kind ≠ 1) (h2 : a.kind ≠ 2) (h3 : a.kind ≠ 3) (h4 : a.kind ≠ 4) : doAct l a = none := by
  cases hf : foundOf l a.name with
  | none => exact doAct_none h1 hf
  | some f =>
    rw [doAct, doTry, if_neg h1, hf]
    dsimp only
    rw [if_neg h2, if_neg h3, if_neg h4]
    split <;> rfl
theorem doAct_bad {l : List FileD} {a : ActD} (h : (a.kind ≠ 1 ∧ blank a.text = false) ∨ (a.kind ≠ 3 ∧ blank a.to = false)) : doAct l a = none := by
  rw [doAct, if_neg]
  intro q
  simp only [actOk, Bool.and_eq_true, Bool.or_eq_true, beq_iff_eq] at q
  rcases h with ⟨h1, h2⟩ | ⟨h1, h2⟩
  · rcases q.2 with q | q
    · exact h1 q
    · rw [h2] at q; cases q
  · rcases q.1.2 with q | q
    · exact h1 q
    · rw [h2] at q; cases q
end Go.Proofs.Ytbbohfagnnobgaa

namespace Go.Proofs.Ytbbohfagnnobgaa
open Go.RowKit

theorem doAll_to (acts : List ActD) : ∀ l : List FileD, doTo l acts (doAll l acts).2 = some (doAll l acts).1 ∧ (doAll l acts).2 ≤ acts.length := by
  induction acts with
  | nil => intro l; exact ⟨rfl, Nat.le_refl _⟩
  | cons a r ih =>
    intro l
    rw [doAll]
    cases hd : doAct l a with
    | none => exact ⟨rfl, Nat.zero_le _⟩
    | some o =>
      have h := ih o
      refine ⟨?_, by simp only [List.length_cons]; exact Nat.succ_le_succ h.2⟩
      show doTo l (a :: r) ((doAll o r).2 + 1) = some (doAll o r).1
      rw [doTo_cons, hd, Option.bind_some]
      exact h.1
theorem doTo_ahead {l R : List FileD} {acts : List ActD} {n : Nat} (h : doTo l acts n = some R) : ∀ k, k ≤ n → ∃ o, doTo l acts k = some o := by
  induction n generalizing R with
  | zero => intro k hk; obtain rfl : k = 0 := by omega
            exact ⟨l, rfl⟩
  | succ n ih =>
    intro k hk
    rcases Nat.lt_or_ge k (n + 1) with q | q
    · rw [doTo] at h
      obtain ⟨o', h1, _⟩ := Option.bind_eq_some_iff.1 h
      exact ih h1 k (by omega)
    · obtain rfl : k = n + 1 := by omega
      exact ⟨R, h⟩
/-- what is done next -/
theorem doTo_next {l L R : List FileD} {acts : List ActD} {i n : Nat} (hn : doTo l acts n = some R) (hi : i < n) (hl : i < acts.length) (h : doTo l acts i = some L) : ∃ o, doAct L acts[i] = some o ∧ doTo l acts (i + 1) = some o := by
  obtain ⟨o, ho⟩ := doTo_ahead hn (i + 1) (by omega)
  exact ⟨o, by rw [← doTo_step hl h]; exact ho, ho⟩
/-- the text of a name -/
def textOf (l : List FileD) (s : ByteArray) : ByteArray := match foundOf l s with
  | some f => f.text
  | none => ⟨#[]⟩
def hasOf (l : List FileD) (s : ByteArray) : Bool := (foundOf l s).isSome
theorem doAct_parts {l o : List FileD} {a : ActD} (h : doAct l a = some o) : diskOk l = true ∧ doTry l a = some o := by
  unfold doAct at h
  split at h
  · rename_i hok
    have hd : diskOk l = true := by
      unfold actOk at hok
      simp only [Bool.and_eq_true] at hok
      exact hok.1.1.1
    split at h
    · cases h
    · rename_i o' ho
      split at h
      · cases h; exact ⟨hd, ho⟩
      · cases h
  · cases h
theorem doAct_adds {l o : List FileD} {a : ActD} (h : doAct l a = some o) (hk : a.kind = 1) : hasOf o a.name = true ∧ textOf o a.name = textOf l a.name ++ a.text := by
  obtain ⟨_, ht⟩ := doAct_parts h
  rw [doTry, if_pos hk] at ht
  have htx : ((foundOf l a.name).getD ⟨a.name, ByteArray.empty, 0⟩).text = textOf l a.name := by
    rw [textOf]
    cases foundOf l a.name with
    | none => rfl
    | some f => rfl
  rw [htx] at ht
  obtain ⟨f, hf⟩ : ∃ f : FileD, f = ⟨a.name, textOf l a.name ++ a.text, ((foundOf l a.name).getD ⟨a.name, ByteArray.empty, 0⟩).kept⟩ := ⟨_, rfl⟩
  rw [← hf] at ht
  cases ht
  have hnm : f.name = a.name := by rw [hf]
  have hmem : f ∈ filesPut l f := mem_put.2 (Or.inl rfl)
  cases hq : foundOf (filesPut l f) a.name with
  | none => exact absurd hnm (found_not hq f hmem)
  | some g =>
    have hg := found_mem hq
    have : g = f := (mem_put.1 hg.1).resolve_right (fun q => q.2 (hg.2.trans hnm.symm))
    refine ⟨by rw [hasOf, hq]; rfl, ?_⟩
    rw [textOf, hq, this, hf]
theorem doAct_drops {l o : List FileD} {a : ActD} (h : doAct l a = some o) (hk : a.kind = 4) : hasOf o a.name = false := by
  obtain ⟨_, ht⟩ := doAct_parts h
  rw [doTry, if_neg (by omega)] at ht
  cases hq : foundOf l a.name with
  | none => rw [hq] at ht; cases ht
  | some f =>
    rw [hq] at ht
    dsimp only at ht
    rw [if_neg (by omega), if_neg (by omega), if_pos hk] at ht
    cases ht
    rw [hasOf]
    cases hr : foundOf (filesNot l a.name) a.name with
    | none => rfl
    | some g =>
      have hg := found_mem hr
      exact absurd hg.2 (mem_not.1 hg.1).2
theorem textOf_small {l : List FileD} (hd : diskOk l = true) (s : ByteArray) : (textOf l s).size ≤ 20000 := by
  rw [textOf]
  cases hq : foundOf l s with
  | none => decide
  | some f => exact (found_right hd hq).2.1
theorem disk_sizes {l : List FileD} (hd : diskOk l = true) : ∀ f ∈ l, f.name.size ≤ 1048576 ∧ f.text.size ≤ 1048576 := by
  intro f hf
  have h := (diskOk_iff.1 hd).2.1 f hf
  simp [fileOk, nameOk, within] at h
  omega
end Go.Proofs.Ytbbohfagnnobgaa

namespace Go.Proofs.Ytbbohfagnnobgaa
open Go.RowKit Go.Maps

/-- how a pointer to an open file reads: by its block -/
def ptrRead : Value → Option (DataW Unit × List MemPlace)
  | .pointer (some ⟨g, 0, none⟩) => some (.lit (.int .i64 g), [])
  | .pointer none => some (.nil, [])
  | _ => none
theorem ptrRead_mk (g : Nat) : ptrRead (.pointer (some ⟨g, 0, none⟩)) = some (.lit (.int .i64 g), []) := rfl
theorem ptrRead_inv {v : Value} {g : Nat} {ps : List MemPlace} (h : ptrRead v = some (.lit (.int .i64 g), ps)) : v = .pointer (some ⟨g, 0, none⟩) := by
  unfold ptrRead at h
  split at h
  · simp at h
    rw [Int.ofNat_inj.1 h.1]
  · simp at h
  · cases h
theorem ptrRead_nil {v : Value} {ps : List MemPlace} (h : ptrRead v = some (.nil, ps)) : v = .pointer none := by
  unfold ptrRead at h
  split at h
  · simp at h
  · rfl
  · cases h
theorem open_keyed : Keyed Try.prog 9 := string_keyed Try.underlying9
theorem open_zero (w : World) : (zeroValue 103).run Try.prog w = .ok (.pointer none) w := by kernel_rfl
def keyL (s : ByteArray) : Lit := .string s.data.toList
theorem keyL_of {s : ByteArray} (h : s.size ≤ maxLen) : keyOf Try.prog 9 (.string s) = some (keyL s) := WideMaps.keyOf_string_mk Try.underlying9 h
theorem keyL_lit (s : ByteArray) : WideAt.IsKeyLit (keyL s) := trivial
theorem keyL_ne {s t : ByteArray} (h : s ≠ t) : keyL s ≠ keyL t := by
  intro e
  simp only [keyL, Lit.string.injEq] at e
  exact h (ByteArray.ext (Array.toList_inj.1 e))
theorem owns_tight {w : World} {P : Program} {k : TypeId} {R : Value → Option (DataW Unit × List MemPlace)} {b n : Nat} {D : DataW Unit} (h : w.ownsMap P k R b n D) : w.ownsMap P k R b (Maps.size D) D := by
  obtain ⟨es, clock, hb, F, hs, rfl⟩ := h
  exact ⟨es, clock, hb, F, by simp [Maps.size, length_sorted], rfl⟩

/-- block b is a map that has the files of a right disk by their names, each behind a pointer to a block of its own -/
structure OpenIs (w : World) (b : Nat) (l : List FileD) (adr : ByteArray → Nat) (lo : Nat) (D : DataW Unit) : Prop where
  own : w.ownsMap Try.prog 9 ptrRead b (Maps.size D) D
  right : diskOk l = true
  has : ∀ s, Maps.has D (keyL s) = true ↔ ∃ f ∈ l, f.name = s
  at_ : ∀ f ∈ l, ∀ z, D.atKey (keyL f.name) z = .lit (.int .i64 (adr f.name))
  blk : ∀ f ∈ l, BlockIs w (adr f.name) 105 [.string f.text, .int .i64 f.kept]
  low : lo ≤ b
  lows : ∀ f ∈ l, lo ≤ adr f.name
  inj : ∀ f ∈ l, ∀ g ∈ l, adr f.name = adr g.name → f.name = g.name

theorem OpenIs.on {w w' : World} {b : Nat} {l : List FileD} {adr : ByteArray → Nat} {lo : Nat} {D : DataW Unit} (h : OpenIs w b l adr lo D) (hb : Below w.heap.size w w') : OpenIs w' b l adr lo D :=
  ⟨by obtain ⟨es, clock, hb', F, hs, hD⟩ := h.own; exact ⟨es, clock, (hb.block b h.own.lt).trans hb', F, hs, hD⟩, h.right, h.has, h.at_, fun f hf => (h.blk f hf).on hb (h.blk f hf).lt, h.low, h.lows, h.inj⟩
theorem OpenIs.drew {w : World} {b : Nat} {l : List FileD} {adr : ByteArray → Nat} {lo : Nat} {D : DataW Unit} (h : OpenIs w b l adr lo D) : OpenIs w.drew b l adr lo D := h.on (below_drewN (Below.refl _ _) 1)
/-- the map's block holds no cells -/
theorem owns_apart {w : World} {P : Program} {k : TypeId} {R : Value → Option (DataW Unit × List MemPlace)} {b n g : Nat} {D : DataW Unit} {t : TypeId} {cs : List Value} (h : w.ownsMap P k R b n D) (hg : BlockIs w g t cs) : g ≠ b := by
  obtain ⟨es, clock, hb, _⟩ := h
  intro e
  subst e
  unfold BlockIs at hg
  rw [hb] at hg
  cases hg
theorem BlockIs.turned {w w' : World} {b g : Nat} {t : TypeId} {cs : List Value} (hg : BlockIs w g t cs) (ht : w.mapTurned w' b) (hne : g ≠ b) : BlockIs w' g t cs := by
  unfold BlockIs
  rw [ht.grown.block g hg.lt (by simpa using hne)]
  exact hg

theorem names_nodup {l : List FileD} (h : Asc l) : (l.map fun f => f.name.data.toList).Nodup := by
  rw [List.nodup_iff_pairwise_ne, List.pairwise_map]
  refine h.imp fun {a b} q e => ?_
  rw [ByteArray.toList_eq, ByteArray.toList_eq, e] at q
  exact List.lt_irrefl _ q
theorem OpenIs.perm {w : World} {b : Nat} {l : List FileD} {adr : ByteArray → Nat} {lo : Nat} {D : DataW Unit} (h : OpenIs w b l adr lo D) : (l.map fun f => f.name.data.toList).Perm (strKeys D) := by
  obtain ⟨es, rfl, hk⟩ := h.own.keysOf
  obtain ⟨es', he, hp⟩ := h.own.tidy open_keyed
  cases he
  refine perm_strKeys hp (fun p hq => by obtain ⟨v, hv⟩ := hk p hq; obtain ⟨x, _, hx, _⟩ := Maps.keyOf_str Try.underlying9 hv; exact ⟨x, hx⟩) (names_nodup (diskOk_iff.1 h.right).2.2) fun x => ?_
  have hx : keyL ⟨x.toArray⟩ = .string x := by simp [keyL]
  rw [← hx, h.has]
  simp only [List.mem_map]
  exact ⟨fun ⟨f, hf, e⟩ => ⟨f, hf, ByteArray.ext (by rw [← e])⟩, fun ⟨f, hf, e⟩ => ⟨f, hf, by rw [e]⟩⟩
theorem OpenIs.size {w : World} {b : Nat} {l : List FileD} {adr : ByteArray → Nat} {lo : Nat} {D : DataW Unit} (h : OpenIs w b l adr lo D) : Maps.size D = l.length := by
  have hp := h.perm.length_eq
  obtain ⟨es, rfl⟩ := h.own.isMap
  simpa [Maps.size, strKeys] using hp.symm

/-- 'file, there := open[name]' -/
theorem OpenIs.look {w : World} {b : Nat} {l : List FileD} {adr : ByteArray → Nat} {lo : Nat} {D : DataW Unit} (h : OpenIs w b l adr lo D) {s : ByteArray} (hs : s.size ≤ maxLen) :
    (∃ f, foundOf l s = some f ∧ (Instr.lookup 72 (.map (some b)) (.string s) true).run Try.prog w = .ok (.tuple #[.pointer (some ⟨adr s, 0, none⟩), .bool true]) w ∧ BlockIs w (adr s) 105 [.string f.text, .int .i64 f.kept]) ∨
    (foundOf l s = none ∧ (Instr.lookup 72 (.map (some b)) (.string s) true).run Try.prog w = .ok (.tuple #[.pointer none, .bool false]) w) := by
  obtain ⟨v, ps, hrun, hv⟩ := h.own.look_ok open_keyed Try.underlying72 (open_zero w) (zd := .nil) (zp := []) rfl (keyL_of hs)
  cases hf : foundOf l s with
  | none =>
    have hno : Maps.has D (keyL s) = false := by
      cases hh : Maps.has D (keyL s) with
      | false => rfl
      | true => obtain ⟨f, hm, e⟩ := (h.has s).1 hh; exact absurd e (found_not hf f hm)
    rw [hno] at hrun
    rw [Maps.atKey_of_not_has hno] at hv
    rw [ptrRead_nil hv] at hrun
    exact Or.inr ⟨rfl, hrun⟩
  | some f =>
    obtain ⟨hm, rfl⟩ := found_mem hf
    rw [(h.has f.name).2 ⟨f, hm, rfl⟩] at hrun
    rw [h.at_ f hm] at hv
    rw [ptrRead_inv hv] at hrun
    exact Or.inl ⟨f, rfl, hrun, h.blk f hm⟩
/-- 'open[name]', the name is there -/
theorem OpenIs.get {w : World} {b : Nat} {l : List FileD} {adr : ByteArray → Nat} {lo : Nat} {D : DataW Unit} (h : OpenIs w b l adr lo D) {f : FileD} (hf : f ∈ l) (hs : f.name.size ≤ maxLen) :
    (Instr.lookup 72 (.map (some b)) (.string f.name) false).run Try.prog w = .ok (.pointer (some ⟨adr f.name, 0, none⟩)) w := by
  obtain ⟨v, ps, hrun, hv⟩ := h.own.lookup open_keyed Try.underlying72 (open_zero w) (zd := .nil) (zp := []) rfl (keyL_of hs)
  rw [h.at_ f hf] at hv
  rw [ptrRead_inv hv] at hrun
  exact hrun

def adrPut (adr : ByteArray → Nat) (x : ByteArray) (g : Nat) (s : ByteArray) : Nat := if s.toList == x.toList then g else adr s
theorem adrPut_same (adr : ByteArray → Nat) (x : ByteArray) (g : Nat) : adrPut adr x g x = g := by simp [adrPut]
theorem adrPut_other (adr : ByteArray → Nat) {x s : ByteArray} (g : Nat) (h : s ≠ x) : adrPut adr x g s = adr s := by
  have : (s.toList == x.toList) = false := beq_eq_false_iff_ne.2 fun e => h (text_eq e)
  simp [adrPut, this]
/-- a file is put in -/
theorem open_put {w w' : World} {b : Nat} {l : List FileD} {adr : ByteArray → Nat} {lo : Nat} {D : DataW Unit} {n g : Nat} (f : FileD)
    (hhas : ∀ s, Maps.has D (keyL s) = true ↔ ∃ f ∈ l, f.name = s) (hat : ∀ f ∈ l, ∀ z, D.atKey (keyL f.name) z = .lit (.int .i64 (adr f.name))) (hinj : ∀ f ∈ l, ∀ g ∈ l, adr f.name = adr g.name → f.name = g.name)
    (hmap : Maps.IsMap D) (hlow : lo ≤ b) (hr : diskOk (filesPut l f) = true)
    (hown : w'.ownsMap Try.prog 9 ptrRead b n (D.put (keyL f.name) (.lit (.int .i64 g)))) (ht : w.mapTurned w' b) (hb0 : ∀ k t cs, BlockIs w k t cs → k ≠ b)
    (hblk : ∀ h ∈ l, h.name ≠ f.name → lo ≤ adr h.name ∧ adr h.name ≠ g ∧ BlockIs w (adr h.name) 105 [.string h.text, .int .i64 h.kept]) (hg : lo ≤ g) (hgb : BlockIs w g 105 [.string f.text, .int .i64 f.kept]) :
    OpenIs w' b (filesPut l f) (adrPut adr f.name g) lo (D.put (keyL f.name) (.lit (.int .i64 g))) := by
  refine ⟨owns_tight hown, hr, fun s => ?_, fun h hh z => ?_, fun h hh => ?_, hlow, fun h hh => ?_, fun h hh k hk e => ?_⟩
  · by_cases e : s = f.name
    · rw [e, Maps.has_put_same hmap (keyL_lit _)]
      exact ⟨fun _ => ⟨f, mem_put.2 (Or.inl rfl), rfl⟩, fun _ => rfl⟩
    · rw [Maps.has_put_other (keyL_ne e), hhas]
      exact ⟨fun ⟨h, hm, q⟩ => ⟨h, mem_put.2 (Or.inr ⟨hm, by rw [q]; exact e⟩), q⟩, fun ⟨h, hm, q⟩ => by
        rcases mem_put.1 hm with rfl | ⟨hm, _⟩
        · exact absurd q.symm e
        · exact ⟨h, hm, q⟩⟩
  · rcases mem_put.1 hh with rfl | ⟨hm, hne⟩
    · rw [Maps.atKey_put_same hmap (keyL_lit _), adrPut_same]
    · rw [Maps.atKey_put_other (keyL_ne hne), hat h hm, adrPut_other adr g hne]
  · rcases mem_put.1 hh with rfl | ⟨hm, hne⟩
    · rw [adrPut_same]; exact hgb.turned ht (hb0 _ _ _ hgb)
    · rw [adrPut_other adr g hne]; exact (hblk h hm hne).2.2.turned ht (hb0 _ _ _ (hblk h hm hne).2.2)
  · rcases mem_put.1 hh with rfl | ⟨hm, hne⟩
    · rw [adrPut_same]; exact hg
    · rw [adrPut_other adr g hne]; exact (hblk h hm hne).1
  · rcases mem_put.1 hh with rfl | ⟨hm, hne⟩
    · rcases mem_put.1 hk with rfl | ⟨km, kne⟩
      · rfl
      · rw [adrPut_same, adrPut_other adr g kne] at e; exact absurd e.symm (hblk k km kne).2.1
    · rcases mem_put.1 hk with rfl | ⟨km, kne⟩
      · rw [adrPut_same, adrPut_other adr g hne] at e; exact absurd e (hblk h hm hne).2.1
      · rw [adrPut_other adr g hne, adrPut_other adr g kne] at e; exact hinj h hm k km e
/-- a file's cells are written -/
theorem open_set {w w' : World} {b : Nat} {l : List FileD} {adr : ByteArray → Nat} {lo : Nat} {D : DataW Unit} {name t : ByteArray} {k : Int} {f : FileD} {j : Nat} {v : Value} (h : OpenIs w b l adr lo D) (hf : foundOf l name = some f) (hr : diskOk (filesPut l ⟨name, t, k⟩) = true)
    (hw : w' = w.setCell ⟨adr name, j, none⟩ v) (hb : BlockIs w' (adr name) 105 [.string t, .int .i64 k]) : OpenIs w' b (filesPut l ⟨name, t, k⟩) adr lo D := by
  obtain ⟨hm, hn⟩ := found_mem hf
  have hne : b ≠ adr name := fun e => owns_apart h.own (h.blk f hm) (by rw [hn]; exact e.symm)
  refine ⟨by rw [hw]; exact h.own.setCell hne v, hr, fun s => ?_, fun g hg z => ?_, fun g hg => ?_, h.low, fun g hg => ?_, fun g hg q hq e => ?_⟩
  · rw [h.has]
    constructor
    · rintro ⟨g, hg, e⟩
      by_cases q : g.name = name
      · exact ⟨_, mem_put.2 (Or.inl rfl), by rw [← e, q]⟩
      · exact ⟨g, mem_put.2 (Or.inr ⟨hg, q⟩), e⟩
    · rintro ⟨g, hg, e⟩
      rcases mem_put.1 hg with rfl | ⟨hg, _⟩
      · exact ⟨f, hm, by rw [hn]; exact e⟩
      · exact ⟨g, hg, e⟩
  · rcases mem_put.1 hg with rfl | ⟨hg, _⟩
    · show D.atKey (keyL name) z = .lit (.int .i64 (adr name))
      rw [← hn]; exact h.at_ f hm z
    · exact h.at_ g hg z
  · rcases mem_put.1 hg with rfl | ⟨hg, q⟩
    · exact hb
    · rw [hw]
      exact (h.blk g hg).far (fun e => q (by have := h.inj g hg f hm (by rw [hn]; exact e.symm); rw [this, hn])) v
  · rcases mem_put.1 hg with rfl | ⟨hg, _⟩
    · show lo ≤ adr name
      rw [← hn]; exact h.lows f hm
    · exact h.lows g hg
  · have up : ∀ x ∈ filesPut l ⟨name, t, k⟩, ∃ y ∈ l, y.name = x.name := by
      intro x hx
      rcases mem_put.1 hx with rfl | ⟨hx, _⟩
      · exact ⟨f, hm, hn⟩
      · exact ⟨x, hx, rfl⟩
    obtain ⟨g', hg', eg⟩ := up g hg
    obtain ⟨q', hq', eq⟩ := up q hq
    rw [← eg, ← eq] at e ⊢
    exact h.inj g' hg' q' hq' e
/-- a file is taken out -/
theorem open_del {w w' : World} {b : Nat} {l : List FileD} {adr : ByteArray → Nat} {lo : Nat} {D : DataW Unit} {n : Nat} {x : ByteArray} (h : OpenIs w b l adr lo D)
    (hown : w'.ownsMap Try.prog 9 ptrRead b n (D.del (keyL x))) (ht : w.mapTurned w' b) : OpenIs w' b (filesNot l x) adr lo (D.del (keyL x)) := by
  refine ⟨owns_tight hown, not_right h.right, fun s => ?_, fun f hf z => ?_, fun f hf => ?_, h.low, fun f hf => h.lows f (mem_not.1 hf).1, fun f hf g hg => h.inj f (mem_not.1 hf).1 g (mem_not.1 hg).1⟩
  · by_cases e : s = x
    · rw [e, Maps.has_del_same]
      exact ⟨fun q => (by cases q), fun ⟨f, hm, q⟩ => absurd q (mem_not.1 hm).2⟩
    · rw [Maps.has_del_other (keyL_ne e), h.has]
      exact ⟨fun ⟨f, hm, q⟩ => ⟨f, mem_not.2 ⟨hm, by rw [q]; exact e⟩, q⟩, fun ⟨f, hm, q⟩ => ⟨f, (mem_not.1 hm).1, q⟩⟩
  · rw [Maps.atKey_del_other (keyL_ne (mem_not.1 hf).2), h.at_ f (mem_not.1 hf).1]
  · exact (h.blk f (mem_not.1 hf).1).turned ht (owns_apart h.own (h.blk f (mem_not.1 hf).1))
end Go.Proofs.Ytbbohfagnnobgaa
