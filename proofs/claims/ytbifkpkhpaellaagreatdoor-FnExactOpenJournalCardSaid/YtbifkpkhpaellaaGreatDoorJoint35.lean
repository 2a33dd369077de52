/-
  Acts that drop a journal's other files, in the order of a right disk's files; nothing of the program stands here.
  What OpenJournal answers, as data.
-/
import Derived.Test.YtbifkpkhpaellaaGreatDoorJoint1
import Derived.Test.YtbifkpkhpaellaaGreatDoorJoint33
import Derived.Test.YtbifkpkhpaellaaGreatDoorJoint28
import Derived.Test.YtbifkpkhpaellaaGreatDoorJoint26
namespace Go.Proofs.YtbifkpkhpaellaaGreatDoor
open Go.RowKit

/-- the name under which a journal's file is begun -/
def jNew : ByteArray := ⟨#[106, 43]⟩
def isNewJ (nm : ByteArray) : Bool := nm.toList == [106, 43]
/-- another file's name -/
def isOtherJ (ix : Int) (nm : ByteArray) : Bool := match nameNum 106 999 nm with
  | none => false
  | some n => !((n : Int) == ix)
theorem isOtherJ_none {ix : Int} {nm : ByteArray} (h : nameNum 106 999 nm = none) : isOtherJ ix nm = false := by rw [isOtherJ, h]
theorem isOtherJ_some {ix : Int} {nm : ByteArray} {n : Nat} (h : nameNum 106 999 nm = some n) : isOtherJ ix nm = !((n : Int) == ix) := by rw [isOtherJ, h]
theorem isNewJ_iff {nm : ByteArray} : isNewJ nm = true ↔ nm.data.toList = [106, 43] := by
  rw [isNewJ, beq_iff_eq, ByteArray.toList_eq]
theorem otherJ_behind {ix : Int} {nm nn : ByteArray} (h : isOtherJ ix nm = true) (hn : isNewJ nn = true) : textLt nn nm = true := by
  cases hq : nameNum 106 999 nm with
  | none => rw [isOtherJ_none hq] at h; cases h
  | some n =>
    have h2 := (nameNum_some (by omega)).1 hq
    obtain ⟨d, r, h3, h4⟩ := dec_first n (by omega)
    rw [textLt, ByteArray.toList_eq, ByteArray.toList_eq, isNewJ_iff.1 hn, h2.2, h3]
    simp only [Op.bytesLess, Bool.or_eq_true, Bool.and_eq_true, decide_eq_true_eq, beq_iff_eq]
    refine Or.inr ⟨trivial, Or.inl ?_⟩
    rw [UInt8.lt_iff_toNat_lt]
    show 43 < d.toNat
    omega
theorem newJ_not_other {ix : Int} {nm : ByteArray} (h : isNewJ nm = true) : isOtherJ ix nm = false := by
  cases hq : isOtherJ ix nm with
  | false => rfl
  | true =>
    have := otherJ_behind hq h
    rw [textLt_irr] at this
    cases this
/-- the act that drops what was begun, if it is there -/
def newAJ (l : List FileD) : List ActD := if l.any (fun f => isNewJ f.name) = true then [dropA jNew] else []
theorem dropsOf_newJ {l : List FileD} (h : l.Pairwise fun f g => textLt f.name g.name = true) : dropsOf isNewJ l = newAJ l := by
  induction l with
  | nil => rfl
  | cons x l ih =>
    have h1 := List.pairwise_cons.1 h
    have ih := ih h1.2
    cases hp : isNewJ x.name with
    | false =>
      unfold dropsOf newAJ at ih ⊢
      simp only [List.filter_cons, hp, List.any_cons, Bool.false_or, Bool.false_eq_true, if_false]
      exact ih
    | true =>
      have hn : l.filter (fun f => isNewJ f.name) = [] := by
        rw [List.filter_eq_nil_iff]
        intro b hb hpb
        have h2 := h1.1 b hb
        have e : x.name = b.name := by
          apply ByteArray.ext
          apply Array.toList_inj.1
          rw [isNewJ_iff.1 hp, isNewJ_iff.1 hpb]
        rw [e, textLt_irr] at h2
        cases h2
      have e : x.name = jNew := by
        apply ByteArray.ext
        apply Array.toList_inj.1
        rw [isNewJ_iff.1 hp]
        rfl
      have h2 : (x :: l).filter (fun f => isNewJ f.name) = [x] := by rw [List.filter_cons, if_pos hp, hn]
      have h3 : (x :: l).any (fun f => isNewJ f.name) = true := by rw [List.any_cons, hp]; rfl
      rw [dropsOf, newAJ, h2, h3, if_pos rfl, List.map_cons, List.map_nil, e]
theorem dropsOf_bothJ {l : List FileD} (ix : Int) (h : l.Pairwise fun f g => textLt f.name g.name = true) : dropsOf (fun nm => isNewJ nm || isOtherJ ix nm) l = newAJ l ++ dropsOf (isOtherJ ix) l := by
  rw [← dropsOf_newJ h, dropsOf, filter_two (R := fun f g => textLt f.name g.name = true) (p := fun f => isNewJ f.name) (q := fun f => isOtherJ ix f.name) (fun a ha => newJ_not_other ha) (fun a b ha hb hR => ?_) l h, List.map_append]
  · rfl
  · have h2 := textLt_trans hR (otherJ_behind ha hb)
    rw [textLt_irr] at h2
    cases h2
theorem newAJ_length (l : List FileD) : (newAJ l).length ≤ 1 := by
  unfold newAJ
  split <;> simp
theorem goesJ_eq (n : Nat) : goesJ n = fun nm => isNewJ nm || isOtherJ n nm := by
  funext nm
  rw [goesJ, isNewJ, isOtherJ]
  congr 1
  cases nameNum 106 999 nm with
  | none => rfl
  | some m =>
    by_cases h : m = n
    · subst h; simp
    · have h2 : ¬ (m : Int) = (n : Int) := by omega
      simp [h, h2]
theorem isNewJ_at {l : List FileD} {k : Nat} (h : FirstAt l jNew k) : l.any (fun f => isNewJ f.name) = true := by
  obtain ⟨hk, h1, _⟩ := h
  rw [List.any_eq_true]
  refine ⟨l[k], List.getElem_mem hk, ?_⟩
  rw [h1]
  exact isNewJ_iff.2 rfl
theorem isNewJ_none {l : List FileD} (h : NoneAt l jNew) : l.any (fun f => isNewJ f.name) = false := by
  rw [List.any_eq_false]
  intro f hf hq
  obtain ⟨j, hj, rfl⟩ := List.mem_iff_getElem.1 hf
  refine h j hj ?_
  apply ByteArray.ext
  apply Array.toList_inj.1
  rw [isNewJ_iff.1 hq]
  rfl
/-- the text of the first file of a name; without one nothing -/
def fileText : List FileD → ByteArray → ByteArray
  | [], _ => ByteArray.empty
  | f :: r, nm => if f.name.toList = nm.toList then f.text else fileText r nm
theorem nameEq_of {a b : ByteArray} (h : a.toList = b.toList) : a = b := by
  rw [ByteArray.toList_eq, ByteArray.toList_eq] at h
  exact ByteArray.ext (Array.toList_inj.1 h)
theorem fileText_at {nm : ByteArray} : ∀ (l : List FileD) (k : Nat) (hk : k < l.length), l[k].name = nm → (∀ j (hj : j < k), (l[j]'(by omega)).name ≠ nm) → fileText l nm = l[k].text
  | [], _, hk, _, _ => by simp at hk
  | f :: l, 0, _, h1, _ => if_pos (congrArg ByteArray.toList h1)
  | f :: l, k + 1, hk, h1, h2 => by
    rw [fileText, if_neg (fun e => h2 0 (by omega) (nameEq_of e))]
    exact fileText_at l k (by simpa using hk) h1 (fun j hj => h2 (j + 1) (by omega))
theorem fileText_first {l : List FileD} {nm : ByteArray} {k : Nat} (hk : k < l.length) (h : FirstAt l nm k) : fileText l nm = l[k].text := by
  obtain ⟨_, h1, h2⟩ := h
  exact fileText_at l k hk h1 h2
theorem fileText_none {l : List FileD} {nm : ByteArray} (h : NoneAt l nm) : fileText l nm = ByteArray.empty := by
  induction l with
  | nil => rfl
  | cons f l ih =>
    rw [fileText, if_neg (fun e => h 0 (by simp) (nameEq_of e))]
    exact ih (fun j hj => h (j + 1) (by simpa using hj))
theorem fileText_small {l : List FileD} {nm : ByteArray} (h : ∀ f ∈ l, f.text.size ≤ 1048576) : (fileText l nm).size ≤ 1048576 := by
  induction l with
  | nil => show (0 : Nat) ≤ 1048576; omega
  | cons f l ih =>
    rw [fileText]
    split
    · exact h f (by simp)
    · exact ih (fun g hg => h g (by simp [hg]))
end Go.Proofs.YtbifkpkhpaellaaGreatDoor

namespace Go.Proofs.YtbifkpkhpaellaaGreatDoor
open Go.RowKit

/-- the acts that begin the next file -/
def nextA (n tm vt s t : Int) (l : List EntD) : List ActD := [⟨1, ⟨#[106, 43]⟩, jText tm vt s t l, ⟨#[]⟩⟩, ⟨2, ⟨#[106, 43]⟩, ⟨#[]⟩, ⟨#[]⟩⟩, ⟨3, ⟨#[106, 43]⟩, ⟨#[]⟩, jname (n + 1)⟩, ⟨4, jname n, ⟨#[]⟩, ⟨#[]⟩⟩]
/-- the journal of the file of a number, with the acts that leave it alone -/
def openAt (l : List FileD) (n : Nat) : Option (JouD × List ActD) :=
  match readJ n (fileText l (jname n)) with
  | none => none
  | some (j, k) =>
    if k < (fileText l (jname n)).size then
      (if jourOk ((n : Int) + 1) j.tm j.vt j.s j.t j.l = true then some (⟨(n : Int) + 1, j.tm, j.vt, j.s, j.t, j.l⟩, dropsOf (goesJ n) l ++ nextA n j.tm j.vt j.s j.t j.l) else none)
    else some (j, dropsOf (goesJ n) l)
def openJ (l : List FileD) : Option (JouD × List ActD) :=
  if diskOk l = true then match bestJ l with
    | none => none
    | some n => openAt l n
  else none
theorem openJ_disk {l : List FileD} (h : diskOk l = false) : openJ l = none := by rw [openJ, h]; rfl
theorem openJ_none {l : List FileD} (h : bestJ l = none) : openJ l = none := by rw [openJ, h]; split <;> rfl
theorem openJ_at {l : List FileD} {n : Nat} (hd : diskOk l = true) (h : bestJ l = some n) : openJ l = openAt l n := by rw [openJ, if_pos hd, h]
theorem openAt_no {l : List FileD} {n : Nat} (h : readJ n (fileText l (jname n)) = none) : openAt l n = none := by rw [openAt, h]
theorem openAt_whole {l : List FileD} {n k : Nat} {j : JouD} (h : readJ n (fileText l (jname n)) = some (j, k)) (hk : ¬ k < (fileText l (jname n)).size) : openAt l n = some (j, dropsOf (goesJ n) l) := by rw [openAt, h]; exact if_neg hk
theorem openAt_anew {l : List FileD} {n k : Nat} {j : JouD} (h : readJ n (fileText l (jname n)) = some (j, k)) (hk : k < (fileText l (jname n)).size) (ho : jourOk ((n : Int) + 1) j.tm j.vt j.s j.t j.l = true) : openAt l n = some (⟨(n : Int) + 1, j.tm, j.vt, j.s, j.t, j.l⟩, dropsOf (goesJ n) l ++ nextA n j.tm j.vt j.s j.t j.l) := by
  rw [openAt, h]
  exact (if_pos hk).trans (if_pos ho)
theorem openAt_not {l : List FileD} {n k : Nat} {j : JouD} (h : readJ n (fileText l (jname n)) = some (j, k)) (hk : k < (fileText l (jname n)).size) (ho : jourOk ((n : Int) + 1) j.tm j.vt j.s j.t j.l = false) : openAt l n = none := by
  rw [openAt, h]
  exact (if_pos hk).trans (if_neg (by rw [ho]; simp))
/-- a journal and acts in memory of the call's own -/
def openDid (o : Option (JouD × List ActD)) (w : World) (e : Ending) (w' : World) : Prop := match o with
  | none => ∃ va vc, e = .returned (.tuple #[.agg #[.int .i64 0, .int .i64 0, .int .i64 0, .int .i64 0, .int .i64 0, .slice none 0 0], .slice va 0 vc, .bool false]) ∧ Below w.heap.size w w'
  | some (j, A) => ∃ vo vc va vd, e = .returned (.tuple #[.agg #[.int .i64 j.n, .int .i64 j.tm, .int .i64 j.vt, .int .i64 j.s, .int .i64 j.t, .slice vo j.l.length vc], .slice va A.length vd, .bool true]) ∧ OwnAt w' 110 (entCells j.l) j.l.length vo w.heap.size w'.heap.size ∧ w'.ownsRow w.heap.size 57 4 (.slice va A.length vd) A.length (actCells A) ∧ Below w.heap.size w w'
end Go.Proofs.YtbifkpkhpaellaaGreatDoor
