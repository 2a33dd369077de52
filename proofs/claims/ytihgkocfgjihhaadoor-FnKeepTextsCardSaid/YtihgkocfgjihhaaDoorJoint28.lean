/-
  A keep read back from its text: part by part, or whole and held against what would be written; nothing of the program stands here but the names of what reads.
  What both readers of a keep answer.
  A right command comes back from its text; what a keep's and a command's texts say of what they are read back to.
-/
import Derived.Test.YtihgkocfgjihhaaDoorJoint27
import Derived.Test.YtihgkocfgjihhaaDoorJoint1
namespace Go.Proofs.YtihgkocfgjihhaaDoor
open Go.RowKit

def rowAt {α : Type} (f : Nat → Option (α × Nat)) : Nat → Nat → Option (List α × Nat)
  | 0, k => some ([], k)
  | n + 1, k => (f k).bind fun p => (rowAt f n p.2).bind fun q => some (p.1 :: q.1, q.2)
def keepAt (s : ByteArray) : Option ((List SessionD × List ItemD) × Nat) :=
  (numAt s 3 0).bind fun p0 => (rowAt (sessionAt s) p0.1 p0.2).bind fun p1 => (numAt s 8 p1.2).bind fun p2 => (rowAt (itemAt s) p2.1 p2.2).bind fun p3 =>
    if keepOk p1.1 p3.1 = true then some ((p1.1, p3.1), p3.2) else none
def readKeep (s : ByteArray) : Option (List SessionD × List ItemD) := (keepAt s).bind fun p => if p.2 = s.size then some p.1 else none
/-- the other way -/
def sesV (s : ByteArray) (o : Option Nat) : SessionD := ⟨nVal s o, nVal s (nSt s o), tVal s (nSt s (nSt s o))⟩
def sesO (s : ByteArray) (o : Option Nat) : Option Nat := tSt s (nSt s (nSt s o))
def itV (s : ByteArray) (o : Option Nat) : ItemD := ⟨tVal s o, tVal s (tSt s o), nVal s (tSt s (tSt s o))⟩
def itO (s : ByteArray) (o : Option Nat) : Option Nat := nSt s (tSt s (tSt s o))
def spRow {α : Type} (v : Option Nat → α) (st : Option Nat → Option Nat) : Nat → Option Nat → List α × Option Nat
  | 0, o => ([], o)
  | _ + 1, none => ([], none)
  | f + 1, some k => (v (some k) :: (spRow v st f (st (some k))).1, (spRow v st f (st (some k))).2)
def ask1 (s : ByteArray) : List SessionD × Option Nat := spRow (sesV s) (sesO s) (min (nVal s (some 0)) 50) (nSt s (some 0))
def ask2 (s : ByteArray) : List ItemD × Option Nat := spRow (itV s) (itO s) (min (nVal s (ask1 s).2) 50) (nSt s (ask1 s).2)
def askKeep (s : ByteArray) : Option (List SessionD × List ItemD) := if (ask2 s).2.isSome = true ∧ keepOk (ask1 s).1 (ask2 s).1 = true ∧ keepText (ask1 s).1 (ask2 s).1 = s then some ((ask1 s).1, (ask2 s).1) else none

theorem session_back {s : ByteArray} {k : Nat} {d : SessionD} {R : List UInt8} (h : From s k (sessB d ++ R)) (hf : sessionFine d = true) : ∃ k', sessionAt s k = some (d, k') ∧ From s k' R ∧ sesV s (some k) = d ∧ sesO s (some k) = some k' := by
  obtain ⟨b1, b2, b3⟩ := session_bounds hf
  obtain ⟨tk, la, re⟩ := d
  dsimp only at b1 b2 b3
  simp only [sessB, List.append_assoc] at h
  obtain ⟨n1, rfl⟩ : ∃ n : Nat, tk = n := ⟨tk.toNat, by omega⟩
  obtain ⟨n2, rfl⟩ : ∃ n : Nat, la = n := ⟨la.toNat, by omega⟩
  simp only [Int.toNat_natCast] at h
  obtain ⟨k1, e1, f1⟩ := num_back (lim := 1000000) h (by omega) (by omega)
  obtain ⟨k1', e1', _⟩ := num_back (lim := 1000000000) h (by omega) (by omega)
  obtain ⟨k2, e2, f2⟩ := num_back (lim := 1000000) f1 (by omega) (by omega)
  obtain ⟨k2', e2', _⟩ := num_back (lim := 1000000000) f1 (by omega) (by omega)
  obtain ⟨k3, e3, f3⟩ := txt_back f2 (by omega)
  have a1 := e1
  have a2 := e2
  rw [numAt_lim h.1, e1'] at e1
  simp only [Option.bind_some] at e1
  rw [if_pos (show n1 ≤ 1000000 by omega)] at e1
  cases e1
  rw [numAt_lim f1.1, e2'] at e2
  simp only [Option.bind_some] at e2
  rw [if_pos (show n2 ≤ 1000000 by omega)] at e2
  cases e2
  refine ⟨k3, ?_, f3, ?_, ?_⟩
  · simp [sessionAt, a1, a2, e3]
  · simp [sesV, nVal, nSt, tVal, e1', e2', e3]
  · simp [sesO, nSt, tSt, e1', e2', e3]
theorem item_back {s : ByteArray} {k : Nat} {d : ItemD} {R : List UInt8} (h : From s k (itemB d ++ R)) (hf : itemFine d = true) : ∃ k', itemAt s k = some (d, k') ∧ From s k' R ∧ itV s (some k) = d ∧ itO s (some k) = some k' := by
  obtain ⟨b1, b2, b3⟩ := item_bounds hf
  obtain ⟨ky, vl, vr⟩ := d
  dsimp only at b1 b2 b3
  simp only [itemB, List.append_assoc] at h
  obtain ⟨n3, rfl⟩ : ∃ n : Nat, vr = n := ⟨vr.toNat, by omega⟩
  simp only [Int.toNat_natCast] at h
  obtain ⟨k1, e1, f1⟩ := txt_back h (by omega)
  obtain ⟨k2, e2, f2⟩ := txt_back f1 (by omega)
  obtain ⟨k3, e3, f3⟩ := num_back (lim := 1000000000) f2 (by omega) (by omega)
  exact ⟨k3, by simp [itemAt, e1, e2, e3], f3, by simp [itV, tVal, nVal, tSt, e1, e2, e3], by simp [itO, nSt, tSt, e1, e2, e3]⟩
theorem row_back {α : Type} {f : Nat → Option (α × Nat)} {v : Option Nat → α} {st : Option Nat → Option Nat} {B : α → List UInt8} {fine : α → Bool} {s : ByteArray}
    (hf : ∀ k d R, From s k (B d ++ R) → fine d = true → ∃ k', f k = some (d, k') ∧ From s k' R ∧ v (some k) = d ∧ st (some k) = some k') :
    ∀ (l : List α) (k : Nat) (R : List UInt8), From s k (l.flatMap B ++ R) → (∀ d ∈ l, fine d = true) → ∃ k', rowAt f l.length k = some (l, k') ∧ From s k' R ∧ spRow v st l.length (some k) = (l, some k')
  | [], k, R, h, _ => ⟨k, rfl, by simpa using h, rfl⟩
  | d :: l, k, R, h, hd => by
    rw [List.flatMap_cons, List.append_assoc] at h
    obtain ⟨k1, e1, f1, v1, s1⟩ := hf k d _ h (hd d (List.mem_cons_self ..))
    obtain ⟨k2, e2, f2, s2⟩ := row_back hf l k1 R f1 (fun x hx => hd x (List.mem_cons_of_mem _ hx))
    refine ⟨k2, ?_, f2, ?_⟩
    · simp [rowAt, e1, e2]
    · simp [spRow, v1, s1, s2]
theorem keep_back {ls : List SessionD} {li : List ItemD} (h : keepOk ls li = true) : readKeep (keepText ls li) = some (ls, li) ∧ askKeep (keepText ls li) = some (ls, li) := by
  obtain ⟨⟨_, hfs, h3⟩, _, hfi, h8⟩ := keep_facts h
  have f0 : From (keepText ls li) 0 (vb ls.length ++ (ls.flatMap sessB ++ (vb li.length ++ (li.flatMap itemB ++ [])))) := ⟨Nat.zero_le _, by simp [keepText, keepB]⟩
  obtain ⟨s, hs⟩ : ∃ s, keepText ls li = s := ⟨_, rfl⟩
  rw [hs] at f0 ⊢
  obtain ⟨k1, e1, f1⟩ := num_back (lim := 1000000000) f0 (by omega) (by omega)
  obtain ⟨k2, e2, f2, r2⟩ := row_back (f := sessionAt s) (v := sesV s) (st := sesO s) (fun k d R => session_back) ls k1 _ f1 hfs
  obtain ⟨k3, e3, f3⟩ := num_back (lim := 1000000000) f2 (by omega) (by omega)
  obtain ⟨k4, e4, f4, r4⟩ := row_back (f := itemAt s) (v := itV s) (st := itO s) (fun k d R => item_back) li k3 _ f3 hfi
  have hk4 : k4 = s.size := by
    have h4 := congrArg List.length f4.2
    rw [List.length_drop, show s.data.toList.length = s.size by simp] at h4
    have := f4.1
    simp at h4
    omega
  constructor
  · have a1 : numAt s 3 0 = some (ls.length, k1) := by rw [numAt_lim (Nat.zero_le _), e1]; simp [h3]
    have a3 : numAt s 8 k2 = some (li.length, k3) := by rw [numAt_lim f2.1, e3]; simp [h8]
    have hk : keepAt s = some ((ls, li), k4) := by simp [keepAt, a1, e2, a3, e4, h]
    rw [readKeep, hk]
    simp [hk4]
  · have b1 : nVal s (some 0) = ls.length := by simp [nVal, e1]
    have b2 : nSt s (some 0) = some k1 := by simp [nSt, e1]
    have b3 : ask1 s = (ls, some k2) := by rw [ask1, b1, b2, Nat.min_eq_left (by omega), r2]
    have b4 : nVal s (some k2) = li.length := by simp [nVal, e3]
    have b5 : nSt s (some k2) = some k3 := by simp [nSt, e3]
    have b6 : ask2 s = (li, some k4) := by rw [ask2, b3]; dsimp only; rw [b4, b5, Nat.min_eq_left (by omega), r4]
    unfold askKeep
    rw [b3, b6]
    exact if_pos ⟨rfl, h, hs⟩
theorem row_text {α : Type} {f : Nat → Option (α × Nat)} {B : α → List UInt8} {s : ByteArray} (hf : ∀ k d k', k ≤ s.size → f k = some (d, k') → k' ≤ s.size ∧ s.data.toList.drop k = B d ++ s.data.toList.drop k') :
    ∀ (n k : Nat) (l : List α) (k' : Nat), k ≤ s.size → rowAt f n k = some (l, k') → l.length = n ∧ k' ≤ s.size ∧ s.data.toList.drop k = l.flatMap B ++ s.data.toList.drop k'
  | 0, k, l, k', hk, h => by cases h; exact ⟨rfl, hk, rfl⟩
  | n + 1, k, l, k', hk, h => by
    rw [rowAt] at h
    cases h1 : f k with
    | none => rw [h1] at h; cases h
    | some p =>
      obtain ⟨d, k1⟩ := p
      rw [h1] at h
      simp only [Option.bind_some] at h
      have q1 := hf k d k1 hk h1
      cases h2 : rowAt f n k1 with
      | none => rw [h2] at h; cases h
      | some p2 =>
        obtain ⟨l2, k2⟩ := p2
        rw [h2] at h
        cases h
        have q2 := row_text hf n k1 l2 k2 q1.1 h2
        refine ⟨by simp [q2.1], q2.2.1, ?_⟩
        rw [q1.2, q2.2.2, List.flatMap_cons, List.append_assoc]
theorem session_text {s : ByteArray} (k : Nat) (d : SessionD) (k' : Nat) (hk : k ≤ s.size) (h : sessionAt s k = some (d, k')) : k' ≤ s.size ∧ s.data.toList.drop k = sessB d ++ s.data.toList.drop k' := by
  unfold sessionAt at h
  cases h0 : numAt s 1000000 k with
  | none => rw [h0] at h; cases h
  | some p0 =>
  obtain ⟨x0, k1⟩ := p0
  have q0 := numAt_fits hk h0
  rw [h0] at h
  simp only [Option.bind_some] at h
  cases h1 : numAt s 1000000 k1 with
  | none => rw [h1] at h; cases h
  | some p1 =>
  obtain ⟨x1, k2⟩ := p1
  have q1 := numAt_fits q0.2.2.2.1 h1
  rw [h1] at h
  simp only [Option.bind_some] at h
  cases h2 : txtAt s k2 with
  | none => rw [h2] at h; cases h
  | some p2 =>
  obtain ⟨x2, k3⟩ := p2
  have q2 := txtAt_fits q1.2.2.2.1 h2
  rw [h2] at h
  simp only [Option.bind_some] at h
  cases h
  refine ⟨q2.2.2.1, ?_⟩
  rw [q0.2.2.2.2, q1.2.2.2.2, q2.2.2.2]
  simp [sessB]
theorem item_text {s : ByteArray} (k : Nat) (d : ItemD) (k' : Nat) (hk : k ≤ s.size) (h : itemAt s k = some (d, k')) : k' ≤ s.size ∧ s.data.toList.drop k = itemB d ++ s.data.toList.drop k' := by
  unfold itemAt at h
  cases h0 : txtAt s k with
  | none => rw [h0] at h; cases h
  | some p0 =>
  obtain ⟨x0, k1⟩ := p0
  have q0 := txtAt_fits hk h0
  rw [h0] at h
  simp only [Option.bind_some] at h
  cases h1 : txtAt s k1 with
  | none => rw [h1] at h; cases h
  | some p1 =>
  obtain ⟨x1, k2⟩ := p1
  have q1 := txtAt_fits q0.2.2.1 h1
  rw [h1] at h
  simp only [Option.bind_some] at h
  cases h2 : numAt s 1000000000 k2 with
  | none => rw [h2] at h; cases h
  | some p2 =>
  obtain ⟨x2, k3⟩ := p2
  have q2 := numAt_fits q1.2.2.1 h2
  rw [h2] at h
  simp only [Option.bind_some] at h
  cases h
  refine ⟨q2.2.2.2.1, ?_⟩
  rw [q0.2.2.2, q1.2.2.2, q2.2.2.2.2]
  simp [itemB]
theorem keepAt_fits {s : ByteArray} {ls : List SessionD} {li : List ItemD} {k : Nat} (h : keepAt s = some ((ls, li), k)) : k ≤ s.size ∧ keepOk ls li = true ∧ s.data.toList = keepB ls li ++ s.data.toList.drop k := by
  unfold keepAt at h
  cases h0 : numAt s 3 0 with
  | none => rw [h0] at h; cases h
  | some p0 =>
  obtain ⟨n, k1⟩ := p0
  have q0 := numAt_fits (Nat.zero_le _) h0
  rw [h0] at h
  simp only [Option.bind_some] at h
  cases h1 : rowAt (sessionAt s) n k1 with
  | none => rw [h1] at h; cases h
  | some p1 =>
  obtain ⟨l1, k2⟩ := p1
  have q1 := row_text session_text n k1 l1 k2 q0.2.2.2.1 h1
  rw [h1] at h
  simp only [Option.bind_some] at h
  cases h2 : numAt s 8 k2 with
  | none => rw [h2] at h; cases h
  | some p2 =>
  obtain ⟨m, k3⟩ := p2
  have q2 := numAt_fits q1.2.1 h2
  rw [h2] at h
  simp only [Option.bind_some] at h
  cases h3 : rowAt (itemAt s) m k3 with
  | none => rw [h3] at h; cases h
  | some p3 =>
  obtain ⟨l2, k4⟩ := p3
  have q3 := row_text item_text m k3 l2 k4 q2.2.2.2.1 h3
  rw [h3] at h
  simp only [Option.bind_some] at h
  split at h
  · next ok =>
    cases h
    refine ⟨q3.2.1, ok, ?_⟩
    have := q0.2.2.2.2
    rw [List.drop_zero] at this
    refine this.trans ?_
    rw [q1.2.2, q2.2.2.2.2, q3.2.2, keepB, q1.1, q3.1]
    simp
  · cases h
theorem readKeep_ok {s : ByteArray} {ls : List SessionD} {li : List ItemD} (h : readKeep s = some (ls, li)) : keepOk ls li = true ∧ keepText ls li = s := by
  unfold readKeep at h
  cases hk : keepAt s with
  | none => rw [hk] at h; cases h
  | some p =>
    obtain ⟨⟨a, b⟩, k⟩ := p
    rw [hk] at h
    simp only [Option.bind_some] at h
    split at h
    · next he =>
      cases h
      have q := keepAt_fits hk
      refine ⟨q.2.1, ?_⟩
      apply ByteArray.ext
      apply Array.toList_inj.1
      conv => rhs; rw [q.2.2]
      have hl : s.data.toList.length = s.size := by simp
      rw [he, ← hl, List.drop_length, List.append_nil, keepText]
    · cases h
/-- both ways are one -/
theorem ask_keep (s : ByteArray) : askKeep s = readKeep s := by
  cases hr : readKeep s with
  | some p =>
    obtain ⟨ls, li⟩ := p
    have q := readKeep_ok hr
    rw [← q.2]
    exact (keep_back q.1).2
  | none =>
    cases ha : askKeep s with
    | none => rfl
    | some p =>
      unfold askKeep at ha
      split at ha
      · next q =>
        have := (keep_back q.2.1).1
        rw [q.2.2, hr] at this
        cases this
      · cases ha
end Go.Proofs.YtihgkocfgjihhaaDoor

namespace Go.Proofs.YtihgkocfgjihhaaDoor
open Go.RowKit

def rkS (o : Option (List SessionD × List ItemD)) : List SessionD := (o.getD ([], [])).1
def rkI (o : Option (List SessionD × List ItemD)) : List ItemD := (o.getD ([], [])).2
def rkDid (o : Option (List SessionD × List ItemD)) (w : World) (e : Ending) (w' : World) : Prop :=
  ∃ va vc vb vd, e = .returned (.tuple #[.agg #[.slice va (rkS o).length vc, .slice vb (rkI o).length vd], .bool o.isSome]) ∧ KRows w' w.heap.size (.slice va (rkS o).length vc) (.slice vb (rkI o).length vd) (rkS o) (rkI o) ∧ Below w.heap.size w w'
theorem krows_nil (w : World) (n : Nat) : KRows w n (.slice none 0 0) (.slice none 0 0) [] [] := ⟨⟨rfl, Or.inl ⟨rfl, rfl⟩⟩, ⟨rfl, Or.inl ⟨rfl, rfl⟩⟩⟩
theorem rk_none {w w' : World} (hb : Below w.heap.size w w') : rkDid none w (.returned (.tuple #[.agg #[.slice none 0 0, .slice none 0 0], .bool false])) w' := ⟨none, 0, none, 0, rfl, krows_nil _ _, hb⟩
theorem rk_small {s : ByteArray} : (rkS (readKeep s)).length ≤ 3 ∧ (rkI (readKeep s)).length ≤ 8 := by
  cases h : readKeep s with
  | none => exact ⟨Nat.zero_le _, Nat.zero_le _⟩
  | some p =>
    obtain ⟨ls, li⟩ := p
    obtain ⟨⟨_, _, h3⟩, _, _, h8⟩ := keep_facts (readKeep_ok h).1
    exact ⟨h3, h8⟩
end Go.Proofs.YtihgkocfgjihhaaDoor

namespace Go.Proofs.YtihgkocfgjihhaaDoor
open Go.RowKit

theorem cmd_back {d : CommandD} (h : commandOk d = true) : readCmd (cmdText d) = some d := by
  obtain ⟨b1, b2, b3, b4, b5, b6⟩ := cmd_bounds h
  have hl := cmdText_list d
  obtain ⟨s, hs⟩ : ∃ s, cmdText d = s := ⟨_, rfl⟩
  rw [hs] at hl ⊢
  obtain ⟨op, tk, sq, ky, vl, vr⟩ := d
  dsimp only at b1 b2 b3 b4 b5 b6 hl
  obtain ⟨n0, rfl⟩ : ∃ n : Nat, op = n := ⟨op.toNat, by omega⟩
  obtain ⟨n1, rfl⟩ : ∃ n : Nat, tk = n := ⟨tk.toNat, by omega⟩
  obtain ⟨n2, rfl⟩ : ∃ n : Nat, sq = n := ⟨sq.toNat, by omega⟩
  obtain ⟨n5, rfl⟩ : ∃ n : Nat, vr = n := ⟨vr.toNat, by omega⟩
  simp only [Int.toNat_natCast] at hl
  have e0 : byteAt s 0 = some (n0, 1) := by
    unfold byteAt
    rw [hl]
    simp only [List.getElem?_cons_zero]
    rw [UInt8.toNat_ofNat_of_lt' (by show n0 < 256; omega)]
  have hsz : s.size = s.data.toList.length := rfl
  have f0 : From s 1 (vb n1 ++ (vb n2 ++ (vb ky.size ++ (ky.data.toList ++ (vb vl.size ++ (vl.data.toList ++ (vb n5 ++ []))))))) := by
    refine ⟨by rw [hsz, hl]; simp, ?_⟩
    rw [hl]
    simp
  obtain ⟨k1, e1, f1⟩ := num_back (lim := 1000000) f0 (by omega) (by omega)
  obtain ⟨k2, e2, f2⟩ := num_back (lim := 1000000) f1 (by omega) (by omega)
  obtain ⟨k3, e3, f3⟩ := txt_back f2 (by omega)
  obtain ⟨k4, e4, f4⟩ := txt_back f3 (by omega)
  obtain ⟨k5, e5, f5⟩ := num_back (lim := 1000000000) f4 (by omega) (by omega)
  have hk5 : k5 = s.size := by
    have h4 := congrArg List.length f5.2
    rw [List.length_drop, show s.data.toList.length = s.size by simp] at h4
    have := f5.1
    simp at h4
    omega
  have hc : cmdAt s = some (⟨n0, n1, n2, ky, vl, n5⟩, k5) := by simp [cmdAt, e0, e1, e2, e3, e4, e5, h]
  rw [readCmd, hc]
  simp [hk5]
/-- what KeepText tells, and what is read of it -/
theorem keep_told (ls : List SessionD) (li : List ItemD) : ∃ (t : ByteArray) (ok : Bool), keepAns ls li = .tuple #[.string t, .bool ok] ∧ ok = keepOk ls li ∧ t.size ≤ 20000 ∧ (ok = true → t = keepText ls li ∧ readKeep t = some (ls, li)) := by
  unfold keepAns
  split
  · rename_i h
    have hb := keep_back h
    refine ⟨_, _, rfl, h.symm, ?_, fun _ => ⟨rfl, hb.1⟩⟩
    have hf := keep_facts h
    have h1 : ∀ l : List SessionD, (∀ s ∈ l, sessionFine s = true) → (l.flatMap sessB).length ≤ 60 * l.length := by
      intro l
      induction l with
      | nil => intro _; simp
      | cons a r ih =>
        intro q
        have := ih (fun s hs => q s (List.mem_cons_of_mem _ hs))
        have := sessB_len (q a (List.mem_cons_self ..))
        simp only [List.flatMap_cons, List.length_append, List.length_cons]
        omega
    have h2 : ∀ l : List ItemD, (∀ s ∈ l, itemFine s = true) → (l.flatMap itemB).length ≤ 60 * l.length := by
      intro l
      induction l with
      | nil => intro _; simp
      | cons a r ih =>
        intro q
        have := ih (fun s hs => q s (List.mem_cons_of_mem _ hs))
        have := itemB_len (q a (List.mem_cons_self ..))
        simp only [List.flatMap_cons, List.length_append, List.length_cons]
        omega
    have e1 := h1 ls hf.1.2.1
    have e2 := h2 li hf.2.2.1
    have e3 := hf.1.2.2
    have e4 := hf.2.2.2
    have e5 := vb_len (n := ls.length) (by omega)
    have e6 := vb_len (n := li.length) (by omega)
    show (keepB ls li).toArray.size ≤ 20000
    simp only [List.size_toArray, keepB, List.length_append]
    omega
  · rename_i h
    exact ⟨_, _, rfl, by simpa using h, by decide, fun q => by cases q⟩
theorem cmd_told (d : CommandD) : ∃ (t : ByteArray) (ok : Bool), cmdAns d = .tuple #[.string t, .bool ok] ∧ ok = commandOk d ∧ t.size ≤ 20000 ∧ (ok = true → t = cmdText d ∧ readCmd t = some d) := by
  unfold cmdAns
  split
  · rename_i h
    have hb := cmd_bounds h
    refine ⟨_, _, rfl, h.symm, ?_, fun _ => ⟨rfl, cmd_back h⟩⟩
    have hl := cmdText_list d
    have e1 := vb_len (n := d.token.toNat) (by omega)
    have e2 := vb_len (n := d.seq.toNat) (by omega)
    have e3 := vb_len (n := d.key.size) (by omega)
    have e4 := vb_len (n := d.val.size) (by omega)
    have e5 := vb_len (n := d.ver.toNat) (by omega)
    have e6 : (cmdText d).size = (cmdText d).data.toList.length := rfl
    have e7 : d.key.data.toList.length = d.key.size := rfl
    have e8 : d.val.data.toList.length = d.val.size := rfl
    rw [e6, hl]
    simp only [List.length_cons, List.length_append, e7, e8]
    omega
  · rename_i h
    exact ⟨_, _, rfl, by simpa using h, by decide, fun q => by cases q⟩
/-- what ReadKeep tells of a text, and KeepText of that -/
theorem keep_asked (s : ByteArray) : ∃ (ms : List SessionD) (mi : List ItemD) (b : Bool), rkS (readKeep s) = ms ∧ rkI (readKeep s) = mi ∧ (readKeep s).isSome = b ∧ (ms.length ≤ 3 ∧ mi.length ≤ 8) ∧ ∃ (t : ByteArray) (ok : Bool), keepAns ms mi = .tuple #[.string t, .bool ok] ∧ (b = true → t = s) := by
  refine ⟨_, _, _, rfl, rfl, rfl, rk_small, ?_⟩
  obtain ⟨t, ok, ha, ho, _, hk⟩ := keep_told (rkS (readKeep s)) (rkI (readKeep s))
  refine ⟨t, ok, ha, fun hb => ?_⟩
  obtain ⟨⟨ls, li⟩, hp⟩ := Option.isSome_iff_exists.1 hb
  have hq := readKeep_ok (ls := ls) (li := li) hp
  have h1 : rkS (readKeep s) = ls := by rw [hp]; rfl
  have h2 : rkI (readKeep s) = li := by rw [hp]; rfl
  rw [h1, h2] at ho hk
  rw [(hk (ho.trans hq.1)).1, hq.2]
theorem cmd_asked (s : ByteArray) : ∃ (d : CommandD) (b : Bool), readCmdAns s = .tuple #[.agg #[.int .i64 d.op, .int .i64 d.token, .int .i64 d.seq, .string d.key, .string d.val, .int .i64 d.ver], .bool b] ∧ ∃ (t : ByteArray) (ok : Bool), cmdAns d = .tuple #[.string t, .bool ok] ∧ (b = true → t = s) := by
  refine ⟨readCmdD s, (readCmd s).isSome, rfl, ?_⟩
  obtain ⟨t, ok, ha, ho, _, hk⟩ := cmd_told (readCmdD s)
  refine ⟨t, ok, ha, fun hb => ?_⟩
  obtain ⟨d, hp⟩ := Option.isSome_iff_exists.1 hb
  have hq := readCmd_ok hp
  have h1 : readCmdD s = d := by rw [readCmdD, hp]; rfl
  rw [h1] at ho hk
  rw [(hk (ho.trans hq.1)).1, hq.2]
theorem cmd_read_of {t : ByteArray} {d : CommandD} (h : readCmd t = some d) : readCmdAns t = .tuple #[.agg #[.int .i64 d.op, .int .i64 d.token, .int .i64 d.seq, .string d.key, .string d.val, .int .i64 d.ver], .bool true] := by
  have h1 : readCmdD t = d := by rw [readCmdD, h]; rfl
  rw [readCmdAns, h1, h]
  rfl
theorem keep_self (ls : List SessionD) (li : List ItemD) : keepSame ls ls li li = true := by
  unfold keepSame
  rw [Bool.and_eq_true, alikeBy_iff (fun _ _ => sessEq_iff), alikeBy_iff (fun _ _ => itemEq_iff)]
  exact ⟨rfl, rfl⟩
end Go.Proofs.YtihgkocfgjihhaaDoor
