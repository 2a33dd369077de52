/-
  A keep read back from its text: part by part, or whole and held against what would be written; nothing of the program stands here but the names of what reads.
  What both readers of a keep answer.
-/
import Derived.Test.YtpbcblehebfpkaaJoint19
import Derived.Test.YtpbcblehebfpkaaJoint20
import Derived.Test.YtpbcblehebfpkaaJoint1
namespace Go.Proofs.Ytpbcblehebfpkaa
open Go.RowKit

def rowAt {α : Type} (f : Nat → Option (α × Nat)) : Nat → Nat → Option (List α × Nat)
  | 0, k => some ([], k)
  | n + 1, k => (f k).bind fun p => (rowAt f n p.2).bind fun q => some (p.1 :: q.1, q.2)
def keepAt (s : ByteArray) : Option ((List SessionD × List ItemD) × Nat) :=
  (numAt s 3 0).bind fun p0 => (rowAt (sessionAt s) p0.1 p0.2).bind fun p1 => (numAt s 8 p1.2).bind fun p2 => (rowAt (itemAt s) p2.1 p2.2).bind fun p3 =>
    if keepOk p1.1 p3.1 = true then some ((p1.1, p3.1), p3.2) else none
def readKeep (s : ByteArray) : Option (List SessionD × List ItemD) := (keepAt s).bind fun p => if p.2 = s.size then some p.1 else none
/-- the other way -/
def sesV (s : ByteArray) (o : Option Nat) : SessionD := ⟨nVal s o, nVal s (nSt s o), tVal s (nSt s (nSt s o))⟩
def sesO (s : ByteArray) (o : Option Nat) : Option Nat := tSt s (nSt s (nSt s o))
def itV (s : ByteArray) (o : Option Nat) : ItemD := ⟨tVal s o, tVal s (tSt s o), nVal s (tSt s (tSt s o))⟩
def itO (s : ByteArray) (o : Option Nat) : Option Nat := nSt s (tSt s (tSt s o))
def spRow {α : Type} (v : Option Nat → α) (st : Option Nat → Option Nat) : Nat → Option Nat → List α × Option Nat
  | 0, o => ([], o)
  | _ + 1, none => ([], none)
  | f + 1, some k => (v (some k) :: (spRow v st f (st (some k))).1, (spRow v st f (st (some k))).2)
def ask1 (s : ByteArray) : List SessionD × Option Nat := spRow (sesV s) (sesO s) (min (nVal s (some 0)) 50) (nSt s (some 0))
def ask2 (s : ByteArray) : List ItemD × Option Nat := spRow (itV s) (itO s) (min (nVal s (ask1 s).2) 50) (nSt s (ask1 s).2)
def askKeep (s : ByteArray) : Option (List SessionD × List ItemD) := if (ask2 s).2.isSome = true ∧ keepOk (ask1 s).1 (ask2 s).1 = true ∧ keepText (ask1 s).1 (ask2 s).1 = s then some ((ask1 s).1, (ask2 s).1) else none

/-- a text from a place on -/
def From (s : ByteArray) (k : Nat) (R : List UInt8) : Prop := k ≤ s.size ∧ s.data.toList.drop k = R
theorem from_add {s : ByteArray} {k : Nat} {A R : List UInt8} (h : From s k (A ++ R)) : From s (k + A.length) R := by
  obtain ⟨h1, h2⟩ := h
  have hl := congrArg List.length h2
  rw [List.length_drop, List.length_append, show s.data.toList.length = s.size by simp] at hl
  refine ⟨by omega, ?_⟩
  rw [← List.drop_drop, h2, List.drop_left]
theorem num_back {s : ByteArray} {k n lim : Nat} {R : List UInt8} (h : From s k (vb n ++ R)) (h1 : n ≤ lim) (h2 : n ≤ 1000000000) : ∃ k', numAt s lim k = some (n, k') ∧ From s k' R := by
  refine ⟨k + (vb n).length, ?_, from_add h⟩
  rw [numAt, h.2, rv_vb h2]
  simp [h1]
theorem txt_back {s t : ByteArray} {k : Nat} {R : List UInt8} (h : From s k (vb t.size ++ (t.data.toList ++ R))) (ht : t.size ≤ 20000) : ∃ k', txtAt s k = some (t, k') ∧ From s k' R := by
  have hl : t.data.toList.length = t.size := Array.length_toList
  have f1 := from_add h
  have f2 := from_add f1
  rw [hl] at f2
  refine ⟨k + (vb t.size).length + t.size, ?_, f2⟩
  have hv : rv (s.data.toList.drop k) = some (t.size, (vb t.size).length) := by rw [h.2]; exact rv_vb (by omega) _
  rw [txtAt, rs_yes h.1 hv ⟨ht, f2.1⟩]
  simp only [Option.some.injEq, Prod.mk.injEq, and_true]
  apply ByteArray.ext
  apply Array.toList_inj.1
  rw [extract_eq, f1.2, Nat.add_sub_cancel_left, ← hl, List.take_left']
  rfl
theorem session_back {s : ByteArray} {k : Nat} {d : SessionD} {R : List UInt8} (h : From s k (sessB d ++ R)) (hf : sessionFine d = true) : ∃ k', sessionAt s k = some (d, k') ∧ From s k' R ∧ sesV s (some k) = d ∧ sesO s (some k) = some k' := by
  obtain ⟨b1, b2, b3⟩ := session_bounds hf
  obtain ⟨tk, la, re⟩ := d
  dsimp only at b1 b2 b3
  simp only [sessB, List.append_assoc] at h
  obtain ⟨n1, rfl⟩ : ∃ n : Nat, tk = n := ⟨tk.toNat, by omega⟩
  obtain ⟨n2, rfl⟩ : ∃ n : Nat, la = n := ⟨la.toNat, by omega⟩
  simp only [Int.toNat_natCast] at h
  obtain ⟨k1, e1, f1⟩ := num_back (lim := 1000000) h (by omega) (by omega)
  obtain ⟨k1', e1', _⟩ := num_back (lim := 1000000000) h (by omega) (by omega)
  obtain ⟨k2, e2, f2⟩ := num_back (lim := 1000000) f1 (by omega) (by omega)
  obtain ⟨k2', e2', _⟩ := num_back (lim := 1000000000) f1 (by omega) (by omega)
  obtain ⟨k3, e3, f3⟩ := txt_back f2 (by omega)
  have a1 := e1
  have a2 := e2
  rw [numAt_lim h.1, e1'] at e1
  simp only [Option.bind_some] at e1
  rw [if_pos (show n1 ≤ 1000000 by omega)] at e1
  cases e1
  rw [numAt_lim f1.1, e2'] at e2
  simp only [Option.bind_some] at e2
  rw [if_pos (show n2 ≤ 1000000 by omega)] at e2
  cases e2
  refine ⟨k3, ?_, f3, ?_, ?_⟩
  · simp [sessionAt, a1, a2, e3]
  · simp [sesV, nVal, nSt, tVal, e1', e2', e3]
  · simp [sesO, nSt, tSt, e1', e2', e3]
theorem item_back {s : ByteArray} {k : Nat} {d : ItemD} {R : List UInt8} (h : From s k (itemB d ++ R)) (hf : itemFine d = true) : ∃ k', itemAt s k = some (d, k') ∧ From s k' R ∧ itV s (some k) = d ∧ itO s (some k) = some k' := by
  obtain ⟨b1, b2, b3⟩ := item_bounds hf
  obtain ⟨ky, vl, vr⟩ := d
  dsimp only at b1 b2 b3
  simp only [itemB, List.append_assoc] at h
  obtain ⟨n3, rfl⟩ : ∃ n : Nat, vr = n := ⟨vr.toNat, by omega⟩
  simp only [Int.toNat_natCast] at h
  obtain ⟨k1, e1, f1⟩ := txt_back h (by omega)
  obtain ⟨k2, e2, f2⟩ := txt_back f1 (by omega)
  obtain ⟨k3, e3, f3⟩ := num_back (lim := 1000000000) f2 (by omega) (by omega)
  exact ⟨k3, by simp [itemAt, e1, e2, e3], f3, by simp [itV, tVal, nVal, tSt, e1, e2, e3], by simp [itO, nSt, tSt, e1, e2, e3]⟩
theorem row_back {α : Type} {f : Nat → Option (α × Nat)} {v : Option Nat → α} {st : Option Nat → Option Nat} {B : α → List UInt8} {fine : α → Bool} {s : ByteArray}
    (hf : ∀ k d R, From s k (B d ++ R) → fine d = true → ∃ k', f k = some (d, k') ∧ From s k' R ∧ v (some k) = d ∧ st (some k) = some k') :
    ∀ (l : List α) (k : Nat) (R : List UInt8), From s k (l.flatMap B ++ R) → (∀ d ∈ l, fine d = true) → ∃ k', rowAt f l.length k = some (l, k') ∧ From s k' R ∧ spRow v st l.length (some k) = (l, some k')
  | [], k, R, h, _ => ⟨k, rfl, by simpa using h, rfl⟩
  | d :: l, k, R, h, hd => by
    rw [List.flatMap_cons, List.append_assoc] at h
    obtain ⟨k1, e1, f1, v1, s1⟩ := hf k d _ h (hd d (List.mem_cons_self ..))
    obtain ⟨k2, e2, f2, s2⟩ := row_back hf l k1 R f1 (fun x hx => hd x (List.mem_cons_of_mem _ hx))
    refine ⟨k2, ?_, f2, ?_⟩
    · simp [rowAt, e1, e2]
    · simp [spRow, v1, s1, s2]
theorem keep_back {ls : List SessionD} {li : List ItemD} (h : keepOk ls li = true) : readKeep (keepText ls li) = some (ls, li) ∧ askKeep (keepText ls li) = some (ls, li) := by
  obtain ⟨⟨_, hfs, h3⟩, _, hfi, h8⟩ := keep_facts h
  have f0 : From (keepText ls li) 0 (vb ls.length ++ (ls.flatMap sessB ++ (vb li.length ++ (li.flatMap itemB ++ [])))) := ⟨Nat.zero_le _, by simp [keepText, keepB]⟩
  obtain ⟨s, hs⟩ : ∃ s, keepText ls li = s := ⟨_, rfl⟩
  rw [hs] at f0 ⊢
  obtain ⟨k1, e1, f1⟩ := num_back (lim := 1000000000) f0 (by omega) (by omega)
  obtain ⟨k2, e2, f2, r2⟩ := row_back (f := sessionAt s) (v := sesV s) (st := sesO s) (fun k d R => session_back) ls k1 _ f1 hfs
  obtain ⟨k3, e3, f3⟩ := num_back (lim := 1000000000) f2 (by omega) (by omega)
  obtain ⟨k4, e4, f4, r4⟩ := row_back (f := itemAt s) (v := itV s) (st := itO s) (fun k d R => item_back) li k3 _ f3 hfi
  have hk4 : k4 = s.size := by
    have h4 := congrArg List.length f4.2
    rw [List.length_drop, show s.data.toList.length = s.size by simp] at h4
    have := f4.1
    simp at h4
    omega
  constructor
  · have a1 : numAt s 3 0 = some (ls.length, k1) := by rw [numAt_lim (Nat.zero_le _), e1]; simp [h3]
    have a3 : numAt s 8 k2 = some (li.length, k3) := by rw [numAt_lim f2.1, e3]; simp [h8]
    have hk : keepAt s = some ((ls, li), k4) := by simp [keepAt, a1, e2, a3, e4, h]
    rw [readKeep, hk]
    simp [hk4]
  · have b1 : nVal s (some 0) = ls.length := by simp [nVal, e1]
    have b2 : nSt s (some 0) = some k1 := by simp [nSt, e1]
    have b3 : ask1 s = (ls, some k2) := by rw [ask1, b1, b2, Nat.min_eq_left (by omega), r2]
    have b4 : nVal s (some k2) = li.length := by simp [nVal, e3]
    have b5 : nSt s (some k2) = some k3 := by simp [nSt, e3]
    have b6 : ask2 s = (li, some k4) := by rw [ask2, b3]; dsimp only; rw [b4, b5, Nat.min_eq_left (by omega), r4]
    unfold askKeep
    rw [b3, b6]
    exact if_pos ⟨rfl, h, hs⟩
theorem row_text {α : Type} {f : Nat → Option (α × Nat)} {B : α → List UInt8} {s : ByteArray} (hf : ∀ k d k', k ≤ s.size → f k = some (d, k') → k' ≤ s.size ∧ s.data.toList.drop k = B d ++ s.data.toList.drop k') :
    ∀ (n k : Nat) (l : List α) (k' : Nat), k ≤ s.size → rowAt f n k = some (l, k') → l.length = n ∧ k' ≤ s.size ∧ s.data.toList.drop k = l.flatMap B ++ s.data.toList.drop k'
  | 0, k, l, k', hk, h => by cases h; exact ⟨rfl, hk, rfl⟩
  | n + 1, k, l, k', hk, h => by
    rw [rowAt] at h
    cases h1 : f k with
    | none => rw [h1] at h; cases h
    | some p =>
      obtain ⟨d, k1⟩ := p
      rw [h1] at h
      simp only [Option.bind_some] at h
      have q1 := hf k d k1 hk h1
      cases h2 : rowAt f n k1 with
      | none => rw [h2] at h; cases h
      | some p2 =>
        obtain ⟨l2, k2⟩ := p2
        rw [h2] at h
        cases h
        have q2 := row_text hf n k1 l2 k2 q1.1 h2
        refine ⟨by simp [q2.1], q2.2.1, ?_⟩
        rw [q1.2, q2.2.2, List.flatMap_cons, List.append_assoc]
theorem session_text {s : ByteArray} (k : Nat) (d : SessionD) (k' : Nat) (hk : k ≤ s.size) (h : sessionAt s k = some (d, k')) : k' ≤ s.size ∧ s.data.toList.drop k = sessB d ++ s.data.toList.drop k' := by
  unfold sessionAt at h
  cases h0 : numAt s 1000000 k with
  | none => rw [h0] at h; cases h
  | some p0 =>
  obtain ⟨x0, k1⟩ := p0
  have q0 := numAt_fits hk h0
  rw [h0] at h
  simp only [Option.bind_some] at h
  cases h1 : numAt s 1000000 k1 with
  | none => rw [h1] at h; cases h
  | some p1 =>
  obtain ⟨x1, k2⟩ := p1
  have q1 := numAt_fits q0.2.2.2.1 h1
  rw [h1] at h
  simp only [Option.bind_some] at h
  cases h2 : txtAt s k2 with
  | none => rw [h2] at h; cases h
  | some p2 =>
  obtain ⟨x2, k3⟩ := p2
  have q2 := txtAt_fits q1.2.2.2.1 h2
  rw [h2] at h
  simp only [Option.bind_some] at h
  cases h
  refine ⟨q2.2.2.1, ?_⟩
  rw [q0.2.2.2.2, q1.2.2.2.2, q2.2.2.2]
  simp [sessB]
theorem item_text {s : ByteArray} (k : Nat) (d : ItemD) (k' : Nat) (hk : k ≤ s.size) (h : itemAt s k = some (d, k')) : k' ≤ s.size ∧ s.data.toList.drop k = itemB d ++ s.data.toList.drop k' := by
  unfold itemAt at h
  cases h0 : txtAt s k with
  | none => rw [h0] at h; cases h
  | some p0 =>
  obtain ⟨x0, k1⟩ := p0
  have q0 := txtAt_fits hk h0
  rw [h0] at h
  simp only [Option.bind_some] at h
  cases h1 : txtAt s k1 with
  | none => rw [h1] at h; cases h
  | some p1 =>
  obtain ⟨x1, k2⟩ := p1
  have q1 := txtAt_fits q0.2.2.1 h1
  rw [h1] at h
  simp only [Option.bind_some] at h
  cases h2 : numAt s 1000000000 k2 with
  | none => rw [h2] at h; cases h
  | some p2 =>
  obtain ⟨x2, k3⟩ := p2
  have q2 := numAt_fits q1.2.2.1 h2
  rw [h2] at h
  simp only [Option.bind_some] at h
  cases h
  refine ⟨q2.2.2.2.1, ?_⟩
  rw [q0.2.2.2, q1.2.2.2, q2.2.2.2.2]
  simp [itemB]
theorem keepAt_fits {s : ByteArray} {ls : List SessionD} {li : List ItemD} {k : Nat} (h : keepAt s = some ((ls, li), k)) : k ≤ s.size ∧ keepOk ls li = true ∧ s.data.toList = keepB ls li ++ s.data.toList.drop k := by
  unfold keepAt at h
  cases h0 : numAt s 3 0 with
  | none => rw [h0] at h; cases h
  | some p0 =>
  obtain ⟨n, k1⟩ := p0
  have q0 := numAt_fits (Nat.zero_le _) h0
  rw [h0] at h
  simp only [Option.bind_some] at h
  cases h1 : rowAt (sessionAt s) n k1 with
  | none => rw [h1] at h; cases h
  | some p1 =>
  obtain ⟨l1, k2⟩ := p1
  have q1 := row_text session_text n k1 l1 k2 q0.2.2.2.1 h1
  rw [h1] at h
  simp only [Option.bind_some] at h
  cases h2 : numAt s 8 k2 with
  | none => rw [h2] at h; cases h
  | some p2 =>
  obtain ⟨m, k3⟩ := p2
  have q2 := numAt_fits q1.2.1 h2
  rw [h2] at h
  simp only [Option.bind_some] at h
  cases h3 : rowAt (itemAt s) m k3 with
  | none => rw [h3] at h; cases h
  | some p3 =>
  obtain ⟨l2, k4⟩ := p3
  have q3 := row_text item_text m k3 l2 k4 q2.2.2.2.1 h3
  rw [h3] at h
  simp only [Option.bind_some] at h
  split at h
  · next ok =>
    cases h
    refine ⟨q3.2.1, ok, ?_⟩
    have := q0.2.2.2.2
    rw [List.drop_zero] at this
    refine this.trans ?_
    rw [q1.2.2, q2.2.2.2.2, q3.2.2, keepB, q1.1, q3.1]
    simp
  · cases h
theorem readKeep_ok {s : ByteArray} {ls : List SessionD} {li : List ItemD} (h : readKeep s = some (ls, li)) : keepOk ls li = true ∧ keepText ls li = s := by
  unfold readKeep at h
  cases hk : keepAt s with
  | none => rw [hk] at h; cases h
  | some p =>
    obtain ⟨⟨a, b⟩, k⟩ := p
    rw [hk] at h
    simp only [Option.bind_some] at h
    split at h
    · next he =>
      cases h
      have q := keepAt_fits hk
      refine ⟨q.2.1, ?_⟩
      apply ByteArray.ext
      apply Array.toList_inj.1
      conv => rhs; rw [q.2.2]
      have hl : s.data.toList.length = s.size := by simp
      rw [he, ← hl, List.drop_length, List.append_nil, keepText]
    · cases h
/-- both ways are one -/
theorem ask_keep (s : ByteArray) : askKeep s = readKeep s := by
  cases hr : readKeep s with
  | some p =>
    obtain ⟨ls, li⟩ := p
    have q := readKeep_ok hr
    rw [← q.2]
    exact (keep_back q.1).2
  | none =>
    cases ha : askKeep s with
    | none => rfl
    | some p =>
      unfold askKeep at ha
      split at ha
      · next q =>
        have := (keep_back q.2.1).1
        rw [q.2.2, hr] at this
        cases this
      · cases ha
end Go.Proofs.Ytpbcblehebfpkaa

namespace Go.Proofs.Ytpbcblehebfpkaa
open Go.RowKit

def rkS (o : Option (List SessionD × List ItemD)) : List SessionD := (o.getD ([], [])).1
def rkI (o : Option (List SessionD × List ItemD)) : List ItemD := (o.getD ([], [])).2
def rkDid (o : Option (List SessionD × List ItemD)) (w : World) (e : Ending) (w' : World) : Prop :=
  ∃ va vc vb vd, e = .returned (.tuple #[.agg #[.slice va (rkS o).length vc, .slice vb (rkI o).length vd], .bool o.isSome]) ∧ KRows w' w.heap.size (.slice va (rkS o).length vc) (.slice vb (rkI o).length vd) (rkS o) (rkI o) ∧ Below w.heap.size w w'
theorem krows_nil (w : World) (n : Nat) : KRows w n (.slice none 0 0) (.slice none 0 0) [] [] := ⟨⟨rfl, Or.inl ⟨rfl, rfl⟩⟩, ⟨rfl, Or.inl ⟨rfl, rfl⟩⟩⟩
theorem rk_none {w w' : World} (hb : Below w.heap.size w w') : rkDid none w (.returned (.tuple #[.agg #[.slice none 0 0, .slice none 0 0], .bool false])) w' := ⟨none, 0, none, 0, rfl, krows_nil _ _, hb⟩
theorem rk_small {s : ByteArray} : (rkS (readKeep s)).length ≤ 3 ∧ (rkI (readKeep s)).length ≤ 8 := by
  cases h : readKeep s with
  | none => exact ⟨Nat.zero_le _, Nat.zero_le _⟩
  | some p =>
    obtain ⟨ls, li⟩ := p
    obtain ⟨⟨_, _, h3⟩, _, _, h8⟩ := keep_facts (readKeep_ok h).1
    exact ⟨h3, h8⟩
end Go.Proofs.Ytpbcblehebfpkaa
